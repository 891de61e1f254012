/- Package cake's stretches, and Value where it adds up. Package cake's Value. -/
import Derived.Test.YtniagnldiegamaaGreatIter
import Derived.Test.YtniagnldiegamaaGreatCheck
namespace Go.Proofs.YtniagnldiegamaaGreat
open Go.RowKit Go.Shelf
attribute [local go_sem] Oper.semAt_some
set_option maxHeartbeats 1000000 in
set_option maxRecDepth 100000 in
theorem stretches_any (len : Int) (K : Option Addr) (kn ck : Nat) (Z : Option Addr) (zn cz : Nat) (n1 d1 n2 d2 : Int) (w : World) :
    Calls Tryz.prog 173 #[.agg #[.int .i64 len, .slice K kn ck, .slice Z zn cz], .agg #[.int .i64 n1, .int .i64 d1], .agg #[.int .i64 n2, .int .i64 d2]] w fun e w' => e = .returned (.func (.func 189) #[] #[.pointer (some ⟨w.heap.size, 0, none⟩), .pointer (some ⟨w.heap.size + 1, 0, none⟩), .pointer (some ⟨w.heap.size + 1 + 1, 0, none⟩)]) ∧
      (BK w' w.heap.size [.int .i64 len, .slice K kn ck, .slice Z zn cz] ∧ BK w' (w.heap.size + 1) [.int .i64 n1, .int .i64 d1] ∧ BK w' (w.heap.size + 1 + 1) [.int .i64 n2, .int .i64 d2]) ∧ Below w.heap.size w w' := by
  go_enter Tryz.func173, Tryz.ntmps173
  go_wp2_with fail
  go_ret
  have b1 := BK.new w [.int .i64 len, .slice K kn ck, .slice Z zn cz] 67; have b2 := BK.new (w.alloc (.cells #[.int .i64 len, .slice K kn ck, .slice Z zn cz] 67)) [.int .i64 n1, .int .i64 d1] 28; have b3 := BK.new ((w.alloc (.cells #[.int .i64 len, .slice K kn ck, .slice Z zn cz] 67)).alloc (.cells #[.int .i64 n1, .int .i64 d1] 28)) [.int .i64 n2, .int .i64 d2] 28
  simp only [World.size_alloc] at b1 b2 b3
  exact ⟨rfl, ⟨(b1.al _).al _, b2.al _, b3⟩, below_al (below_al (below_al (Below.refl _ _) _) _) _⟩

/-- A cake's boxes, as its iterator reads them. -/
structure Boxes (X : Ck.Sx) (w : World) (n₀ : Nat) (Ws : List Nat) (Bc Ba Bb bk ok m ck bz oz cz : Nat) (len : Int) : Prop where
  b1 : Bc < n₀ ∧ Bc ∉ Ws
  b2 : Ba < n₀ ∧ Ba ∉ Ws
  b3 : Bb < n₀ ∧ Bb ∉ Ws
  b4 : bk < n₀ ∧ bk ∉ Ws
  b5 : bz < n₀ ∧ bz ∉ Ws
  b6 : n₀ ≤ w.heap.size
  c0 : w.cell? ⟨Bc, 0, none⟩ = some (.int .i64 len)
  c1 : w.cell? ⟨Bc, 1, none⟩ = some (.slice (some ⟨bk, ok, none⟩) (m + 1) ck)
  c2 : w.cell? ⟨Bc, 2, none⟩ = some (.slice (some ⟨bz, oz, none⟩) m cz)
  a0 : w.cell? ⟨Ba, 0, none⟩ = some (.int .i64 X.n1)
  a1 : w.cell? ⟨Ba, 1, none⟩ = some (.int .i64 X.d1)
  e0 : w.cell? ⟨Bb, 0, none⟩ = some (.int .i64 X.n2)
  e1 : w.cell? ⟨Bb, 1, none⟩ = some (.int .i64 X.d2)
  hk : ∀ i, i < m + 1 → w.cell? ⟨bk, ok + i, none⟩ = some (.int .i64 (Ck.at_ X.c i))
  hz : ∀ i, i < m → w.cell? ⟨bz, oz + i, none⟩ = some (.int .i64 (Ck.at_ X.d i))
theorem Boxes.keep {X : Ck.Sx} {w v : World} {n₀ : Nat} {Ws : List Nat} {Bc Ba Bb bk ok m ck bz oz cz : Nat} {len : Int} (h : Boxes X w n₀ Ws Bc Ba Bb bk ok m ck bz oz cz len) (hb : Below w.heap.size w v) : Boxes X v n₀ Ws Bc Ba Bb bk ok m ck bz oz cz len :=
  ⟨h.b1, h.b2, h.b3, h.b4, h.b5, Nat.le_trans h.b6 hb.size, keepC hb h.c0, keepC hb h.c1, keepC hb h.c2, keepC hb h.a0, keepC hb h.a1, keepC hb h.e0, keepC hb h.e1, fun i hi => keepC hb (h.hk i hi), fun i hi => keepC hb (h.hz i hi)⟩
theorem iter_stops (X : Ck.Sx) (n Bc Ba Bb bk ok m ck bz oz cz n₀ : Nat) (Ws : List Nat) (len : Int) (w : World) (hn : 1 ≤ n) (hm : m ≤ 39) (oA : Rp.Ok X.n1 X.d1) (oB : Rp.Ok X.n2 X.d2)
    (hR : ∀ k, k ≤ m → 0 ≤ Ck.at_ X.c k ∧ Ck.at_ X.c k ≤ 1000) (hD : ∀ k, k < m → 0 ≤ Ck.at_ X.d k ∧ Ck.at_ X.d k ≤ 12) (hB : Boxes X w n₀ Ws Bc Ba Bb bk ok m ck bz oz cz len) :
    SeqStopsK Fence.wide n Tryz.prog 189 #[.pointer (some ⟨Bc, 0, none⟩), .pointer (some ⟨Ba, 0, none⟩), .pointer (some ⟨Bb, 0, none⟩)] (fun x : X.It => #[X.sv x.1, .int .i64 (X.wt x.1).2.2]) (KB n₀ Ws) (fun ys => ys = X.idx m) (fun pre => ∃ k, k ≤ m ∧ pre = X.idx k) m w := fun l J Jx W hW hJ _ hY h0 => by
  have h := hB.keep hW; exact iter_in X n l Bc Ba Bb bk ok m ck bz oz cz n₀ Ws len X.n1 X.d1 X.n2 X.d2 J Jx W hn hm rfl rfl rfl rfl oA oB hR hD h.b1 h.b2 h.b3 h.b4 h.b5 h.b6 h.c0 h.c1 h.c2 h.a0 h.a1 h.e0 h.e1 h.hk h.hz hJ h0 hY
end Go.Proofs.YtniagnldiegamaaGreat
namespace Go.Proofs.YtniagnldiegamaaGreat
open Go.RowKit Go.Shelf
attribute [local go_sem] Oper.semAt_some
theorem name_act {F : Fence} {n : Nat} {P : Program} {c : Code} {Q : Exit → Act → World → Prop} {a : Act} {w : World} (k : ∀ a0, a0 = a → c.wpIn F n P Q a0 w) : c.wpIn F n P Q a w := k a rfl
theorem BK.kept {W W' : World} {row : Option Nat} {p : Nat} {l : List Value} (h : BK W p l) (hg : W.grownBy W' row) (hr : ∀ r, row = some r → ∃ o : Obj, W.heap[r]? = some o ∧ o.isCells = false) : BK W' p l :=
  ⟨Nat.lt_of_lt_of_le h.1 hg.size, fun j x e => ⟨cell_kept (h.2 j x e).1 hg hr, (frozen_kept (h.2 j x e).1 hg hr).trans (h.2 j x e).2⟩⟩
theorem KeepsOthers.of_below {W W' : World} (h : Below W.heap.size W W') : KeepsOthers W W' := ⟨h.size, fun k _ hk _ => (h.block k (Array.getElem?_eq_some_iff.1 hk).1).trans hk⟩
theorem KB.below' {n₀ : Nat} {Ws : List Nat} {A B : World} (h : Below n₀ A B) : KB n₀ Ws A B := ⟨h.size, fun b o hb _ => h.cell (p := ⟨b, o, none⟩) hb⟩
/-- What a round keeps. -/
structure Kp2 (Bw n₀ : Nat) (Ws : List Nat) (W W' : World) : Prop where
  kf : KeepsFrom Bw W W'
  kb : KB n₀ Ws W W'
theorem Kp2.refl (Bw n₀ : Nat) (Ws : List Nat) (W : World) : Kp2 Bw n₀ Ws W W := ⟨KeepsFrom.refl _ _, KB.refl _ _ _⟩
theorem Kp2.below {Bw n₀ : Nat} {Ws : List Nat} {W A B : World} (h : Kp2 Bw n₀ Ws W A) (hn : n₀ ≤ A.heap.size) (hb : Below A.heap.size A B) : Kp2 Bw n₀ Ws W B := ⟨h.kf.trans ((KeepsOthers.of_below hb).from _), h.kb.trans (KB.below hn hb)⟩
theorem Kp2.set {Bw n₀ : Nat} {Ws : List Nat} {W A : World} (h : Kp2 Bw n₀ Ws W A) {b : Nat} (hb : b ∈ Ws ∨ n₀ ≤ b) (o : Nat) (u : Value) : Kp2 Bw n₀ Ws W (A.setCell ⟨b, o, none⟩ u) := ⟨h.kf.trans ((KeepsOthers.setCell _ _ _).from _), h.kb.set hb o u⟩
/-- A stretch in its box. -/
def SB (X : Ck.Sx) (k : Nat) (W : World) (p : Nat) : Prop := ∃ y0 y1 y2 y3 y4 : Int, X.sv k = .agg #[.int .i64 y0, .int .i64 y1, .int .i64 y2, .int .i64 y3, .int .i64 y4] ∧ BK W p [.int .i64 y0, .int .i64 y1, .int .i64 y2, .int .i64 y3, .int .i64 y4]
theorem Ck.Sx.sv_of {X : Ck.Sx} {k : Nat} {y0 y1 y2 y3 y4 : Int} (h : X.sv k = .agg #[.int .i64 y0, .int .i64 y1, .int .i64 y2, .int .i64 y3, .int .i64 y4]) (e : (X.wt k).2.2 = 0) : y0 = (X.bg k).1 ∧ y1 = (X.bg k).2 ∧ y2 = (X.wt k).1 ∧ y3 = (X.wt k).2.1 ∧ y4 = Ck.at_ X.d k := by
  unfold Ck.Sx.sv at h
  rw [if_pos e] at h
  simp only [Value.agg.injEq, Array.mk.injEq, List.cons.injEq, Value.int.injEq, true_and, and_true] at h
  obtain ⟨h0, h1, h2, h3, h4⟩ := h; exact ⟨h0.symm, h1.symm, h2.symm, h3.symm, h4.symm⟩
theorem Ck.Sx.wt_cases (X : Ck.Sx) (k : Nat) (oA : Rp.Ok X.n1 X.d1) (oB : Rp.Ok X.n2 X.d2) (r1 : 0 ≤ Ck.at_ X.c k ∧ Ck.at_ X.c k ≤ 1000) (r2 : 0 ≤ Ck.at_ X.c (k + 1) ∧ Ck.at_ X.c (k + 1) ≤ 1000) (r3 : 0 ≤ Ck.at_ X.d k ∧ Ck.at_ X.d k ≤ 12) :
    ((X.wt k).2.2 = 0 ∧ Rp.Ok (X.wt k).1 (X.wt k).2.1) ∨ X.wt k = (0, 0, 16) := by
  have m1 := (Ck.mxS_ok oA (Rp.Ok_one (F := Ck.at_ X.c k) (by omega) (by omega))).1; have m3 := (Ck.mnS_ok oB (Rp.Ok_one (F := Ck.at_ X.c (k + 1)) (by omega) (by omega))).1
  rcases Ck.wthS_is m1 m3 (k := Ck.at_ X.d k) (by omega) (by omega) with ⟨h1, h2, _⟩ | h
  · exact .inl ⟨h1, h2⟩
  · exact .inr h
/-- Value's own cells, between two stretches. -/
def VI (X : Ck.Sx) (N p9 p6 p7 : Nat) (pre : List X.It) (W : World) : Prop := N ≤ W.heap.size ∧ ∃ s1 s2 : Int, X.vall pre = (s1, s2, 0) ∧ Rp.Ok s1 s2 ∧ BK W p9 [.int .i64 s1, .int .i64 s2] ∧ BK W p6 [.int .i64 0, .int .i64 0] ∧ BK W p7 [.int .i64 0]
def VX (X : Ck.Sx) (p6 p7 : Nat) (c : Code) (pre : List X.It) (W : World) : Prop := c = .ret ∧ X.vall pre = (0, 0, 16) ∧ BK W p6 [.int .i64 0, .int .i64 0] ∧ BK W p7 [.int .i64 16]
theorem VI.own {X : Ck.Sx} {N p9 p6 p7 B : Nat} : OwnFrom B (VI X N p9 p6 p7) := fun _ _ _ _ hs hg hr => by
  obtain ⟨hN, s1, s2, e, o, b9, b6, b7⟩ := hs
  have hr' := fun r e => (hr r e).2
  exact ⟨Nat.le_trans hN hg.size, s1, s2, e, o, b9.kept hg hr', b6.kept hg hr', b7.kept hg hr'⟩
theorem VX.own {X : Ck.Sx} {p6 p7 B : Nat} {c : Code} : OwnFrom B (VX X p6 p7 c) := fun _ _ _ _ hs hg hr => by
  obtain ⟨e, e2, b6, b7⟩ := hs
  have hr' := fun r e => (hr r e).2
  exact ⟨e, e2, b6.kept hg hr', b7.kept hg hr'⟩
theorem Ck.Sx.vall_stay (X : Ck.Sx) (k : Nat) (h : (X.vall (X.idx k)).2.2 ≠ 0) {m : Nat} (hm : k ≤ m) : X.vall (X.idx m) = X.vall (X.idx k) := by
  obtain ⟨t, rfl⟩ : ∃ t, m = k + t := ⟨m - k, by omega⟩; clear hm
  induction t with
  | zero => rfl
  | succ t ih =>
    rw [← X.vgo_fold, ← Nat.add_assoc, Ck.vgo, X.vgo_fold, ih, if_pos h]
theorem at_ge {l : List Int} {k : Nat} (h : l.length ≤ k) : Ck.at_ l k = 0 := by unfold Ck.at_; simp [h]
theorem pt_spec {len n d : Int} (h : Ck.pt len n d = true) : Rp.Ok n d ∧ 0 ≤ n ∧ n ≤ len * d := of_decide_eq_true h

set_option linter.unusedSimpArgs false in
set_option maxHeartbeats 8000000 in
set_option maxRecDepth 100000 in
theorem value_good (len : Int) (K : Option Addr) (cuts : List Int) (ck : Nat) (Z : Option Addr) (dens : List Int) (cz : Nat) (n1 d1 n2 d2 : Int) (w : World) (h : IsCake w len K cuts Z dens) (hc : Ck.chk len cuts dens = 0) (pa : Ck.pt len n1 d1 = true) (pb : Ck.pt len n2 d2 = true) (hle : ¬ Rp.q n2 d2 < Rp.q n1 d1) :
    Calls Tryz.prog 143 #[.agg #[.int .i64 len, .slice K cuts.length ck, .slice Z dens.length cz], .agg #[.int .i64 n1, .int .i64 d1], .agg #[.int .i64 n2, .int .i64 d2]] w fun e w' => e = .returned (.tuple #[.agg #[.int .i64 (Ck.vgo cuts dens n1 d1 n2 d2 dens.length).1, .int .i64 (Ck.vgo cuts dens n1 d1 n2 d2 dens.length).2.1], .int .i64 (Ck.vgo cuts dens n1 d1 n2 d2 dens.length).2.2]) ∧ Below w.heap.size w w' := by
  have hG := Ck.chk_good hc
  have cc := fun v (hb : Below w.heap.size w v) => ckCheck_any len K cuts ck Z dens cz v (h.keep hb)
  rw [hc] at cc; obtain ⟨oA, _, _⟩ := pt_spec pa; obtain ⟨oB, _, _⟩ := pt_spec pb
  have bA : I64 n1 ∧ I64 d1 := by obtain ⟨e1, e2, e3, e4, _⟩ := oA; exact ⟨⟨by omega, by omega⟩, by omega, by omega⟩
  have bB : I64 n2 ∧ I64 d2 := by obtain ⟨e1, e2, e3, e4, _⟩ := oB; exact ⟨⟨by omega, by omega⟩, by omega, by omega⟩
  have cp := fun v => ispoint_any len K cuts.length ck Z dens.length cz n1 d1 v hG.len0 hG.len1 bA.1 bA.2
  have cq := fun v => ispoint_any len K cuts.length ck Z dens.length cz n2 d2 v hG.len0 hG.len1 bB.1 bB.2
  have cl := fun v => ckless_any n2 d2 n1 d1 oB oA v
  rw [pa] at cp; rw [pb] at cq; rw [decide_eq_false hle] at cl; obtain ⟨X, hX⟩ : ∃ X : Ck.Sx, X = ⟨cuts, dens, n1, d1, n2, d2⟩ := ⟨_, rfl⟩
  have x1 : X.c = cuts := by rw [hX]
  have x2 : X.d = dens := by rw [hX]
  have x3 : X.n1 = n1 := by rw [hX]
  have x4 : X.d1 = d1 := by rw [hX]
  have x5 : X.n2 = n2 := by rw [hX]
  have x6 : X.d2 = d2 := by rw [hX]
  have hv := X.vgo_fold dens.length; rw [x1, x2, x3, x4, x5, x6] at hv; rw [hv]; obtain ⟨_, _, iK, iZ⟩ := h; obtain ⟨bk, ok, rfl, hk⟩ := iK.1 (by have := hG.shape; omega); obtain ⟨bz, oz, rfl, hz⟩ := iZ.1 (by have := hG.shape; omega); obtain ⟨m, hm⟩ : ∃ m, dens.length = m := ⟨_, rfl⟩; have hsh := hG.shape
  have hn : cuts.length = m + 1 := by omega
  have hmm : m ≤ 39 := by omega
  have hm1 : 1 ≤ m := by omega
  have hR := hG.range
  have hD := fun k hk => (hG.step k hk).2
  have lk := lt_of_cell (hk 0 (by omega)); have lz := lt_of_cell (hz 0 (by omega)); rw [hm] at hz hR hD cc cp cq ⊢; rw [hn] at hk cc cp cq; rw [hn]; have CC := Lib.hid cc; have CP := Lib.hid cp; have CQ := Lib.hid cq; have CL := Lib.hid cl; have HR := Lib.hid hR; have HD := Lib.hid hD; have HK := Lib.hid hk; have HZ := Lib.hid hz; have HX := Lib.hid (show X.c = cuts ∧ X.d = dens ∧ X.n1 = n1 ∧ X.d1 = d1 ∧ X.n2 = n2 ∧ X.d2 = d2 from ⟨x1, x2, x3, x4, x5, x6⟩); obtain ⟨⟨R1, R2, R3⟩, hRR⟩ : ∃ R, X.vall (X.idx m) = R := ⟨_, rfl⟩; rw [hRR]
  dsimp only
  have HRR := Lib.hid hRR; have OA := Lib.hid oA; have HM := Lib.hid hm; have OB := Lib.hid oB; clear hRR cc cp cq cl hR hD hk hz iK iZ hG hsh hX x1 x2 x3 x4 x5 x6 hv hle pa pb hc oA oB bA bB hm hn; refine (callsIn_wide (n := 9)).1 ?_; refine callsIn_of_wp_marks Tryz.func143 rfl trivial ?_ rfl; refine wpIn_wide.2 ?_
  simp only [Tryz.ntmps143, List.size_toArray, List.length_cons, List.length_nil, Nat.reduceAdd, Nat.reduceSub, Array.replicate_succ, Array.replicate_zero, List.push_toArray, List.append_toArray, List.nil_append, List.cons_append]
  (go_wp2_with fail); refine (CC.out _ ((((((Below.refl _ _).alloc (Nat.le_refl _) _).alloc (by simp) _).alloc (by simp; omega) _).alloc (by simp; omega) _).alloc (by simp; omega) _)).mono ?_; rintro e w1 ⟨rfl, hb⟩; have hbb : Below w.heap.size w w1 := keepB ((((((Below.refl _ _).alloc (Nat.le_refl _) _).alloc (by simp) _).alloc (by simp; omega) _).alloc (by simp; omega) _).alloc (by simp; omega) _) hb
  have B3 : BK w1 (w.heap.size) [.int .i64 len, .slice (some ⟨bk, ok, none⟩) (m + 1) ck, .slice (some ⟨bz, oz, none⟩) m cz] := BK.keep (v := _) ⟨by simp <;> omega, fun j x e => by
    match j with
    | 0 => injection e with e; subst e; exact ⟨by go_simp, by go_simp⟩
    | 1 => injection e with e; subst e; exact ⟨by go_simp, by go_simp⟩
    | 2 => injection e with e; subst e; exact ⟨by go_simp, by go_simp⟩
    | j + 3 => cases e⟩ hb
  have B4 : BK w1 (w.heap.size + 1) [.int .i64 n1, .int .i64 d1] := BK.keep (v := _) ⟨by simp <;> omega, fun j x e => by
    match j with
    | 0 => injection e with e; subst e; exact ⟨by go_simp, by go_simp⟩
    | 1 => injection e with e; subst e; exact ⟨by go_simp, by go_simp⟩
    | j + 2 => cases e⟩ hb
  have B5 : BK w1 (w.heap.size + 1 + 1) [.int .i64 n2, .int .i64 d2] := BK.keep (v := _) ⟨by simp <;> omega, fun j x e => by
    match j with
    | 0 => injection e with e; subst e; exact ⟨by go_simp, by go_simp⟩
    | 1 => injection e with e; subst e; exact ⟨by go_simp, by go_simp⟩
    | j + 2 => cases e⟩ hb
  have B6 : BK w1 (w.heap.size + 1 + 1 + 1) [.int .i64 0, .int .i64 0] := BK.keep (v := _) ⟨by simp <;> omega, fun j x e => by
    match j with
    | 0 => injection e with e; subst e; exact ⟨by go_simp, by go_simp⟩
    | 1 => injection e with e; subst e; exact ⟨by go_simp, by go_simp⟩
    | j + 2 => cases e⟩ hb
  have B7 : BK w1 (w.heap.size + 1 + 1 + 1 + 1) [.int .i64 0] := BK.keep (v := _) ⟨by simp <;> omega, fun j x e => by
    match j with
    | 0 => injection e with e; subst e; exact ⟨by go_simp, by go_simp⟩
    | j + 1 => cases e⟩ hb
  clear hb; have b30 := B3.c 0 rfl; have b31 := B3.c 1 rfl; have b32 := B3.c 2 rfl; have b40 := B4.c 0 rfl; have b41 := B4.c 1 rfl; (go_wp2_with fail); refine (CP.out _).mono ?_; rintro e w2 ⟨rfl, hb⟩; clear b30 b31 b32 b40 b41; replace B3 := B3.keep hb; replace B4 := B4.keep hb; replace B5 := B5.keep hb; replace B6 := B6.keep hb; replace B7 := B7.keep hb; replace hbb := keepB hbb hb; clear hb; have b30 := B3.c 0 rfl; have b31 := B3.c 1 rfl; have b32 := B3.c 2 rfl; have b50 := B5.c 0 rfl; have b51 := B5.c 1 rfl; (go_wp2_with fail); refine (CQ.out _).mono ?_; rintro e w3 ⟨rfl, hb⟩; clear b30 b31 b32 b50 b51; replace B3 := B3.keep hb; replace B4 := B4.keep hb; replace B5 := B5.keep hb; replace B6 := B6.keep hb; replace B7 := B7.keep hb; replace hbb := keepB hbb hb; clear hb; have b50 := B5.c 0 rfl; have b51 := B5.c 1 rfl; have b40 := B4.c 0 rfl; have b41 := B4.c 1 rfl; (go_wp2_with fail); refine (CL.out _).mono ?_; rintro e w4 ⟨rfl, hb⟩; clear b50 b51 b40 b41; replace B3 := B3.keep hb; replace B4 := B4.keep hb; replace B5 := B5.keep hb; replace B6 := B6.keep hb; replace B7 := B7.keep hb; replace hbb := keepB hbb hb; clear hb; clear CC CP CQ CL; (go_wp2_with fail); refine (ckwhole_any _ _).mono ?_; rintro e w5 ⟨rfl, hb⟩; replace B3 := B3.keep hb; replace B4 := B4.keep hb; replace B5 := B5.keep hb; replace B6 := B6.keep hb; replace B7 := B7.keep hb; replace hbb := keepB hbb hb; clear hb
  go_upto_region 7 with fail
  refine at_worldQ (fun v => Below w.heap.size w v ∧ BK v (w.heap.size) [.int .i64 len, .slice (some ⟨bk, ok, none⟩) (m + 1) ck, .slice (some ⟨bz, oz, none⟩) m cz] ∧ BK v (w.heap.size + 1) [.int .i64 n1, .int .i64 d1] ∧ BK v (w.heap.size + 1 + 1) [.int .i64 n2, .int .i64 d2] ∧ BK v (w.heap.size + 1 + 1 + 1) [.int .i64 0, .int .i64 0] ∧ BK v (w.heap.size + 1 + 1 + 1 + 1) [.int .i64 0] ∧ BK v w5.heap.size [.int .i64 0, .int .i64 1]) ⟨below_al hbb _, B3.al _, B4.al _, B5.al _, B6.al _, B7.al _, BK.new _ _ _⟩ (fun V hS => ?_); have l5 := B7.lt; clear hbb B3 B4 B5 B6 B7; obtain ⟨hbb, B3, B4, B5, B6, B7, B9⟩ := hS; have l9 := B9.lt; have b30 := B3.c 0 rfl; have b31 := B3.c 1 rfl; have b32 := B3.c 2 rfl; have b40 := B4.c 0 rfl; have b41 := B4.c 1 rfl; have b50 := B5.c 0 rfl; have b51 := B5.c 1 rfl; (go_wp2_with fail); clear b30 b31 b32 b40 b41 b50 b51; refine (stretches_any len (some ⟨bk, ok, none⟩) (m + 1) ck (some ⟨bz, oz, none⟩) m cz n1 d1 n2 d2 V).mono ?_; rintro e w7 ⟨rfl, ⟨S1, S2, S3⟩, hb⟩; replace B3 := B3.keep hb; replace B4 := B4.keep hb; replace B5 := B5.keep hb; replace B6 := B6.keep hb; replace B7 := B7.keep hb; replace B9 := B9.keep hb; have hsz := hb.size; replace hbb := keepB hbb hb; have hl7 := S3.lt; (go_wp2_with fail); refine (wpIn_wide (n := 9)).1 ?_; refine name_act (fun a0 hA0 => ?_); have nB : w.heap.size + 1 + 1 + 1 + 1 < w5.heap.size := l5
  have hBX : Boxes X w7 (V.heap.size + 3) [w5.heap.size, w.heap.size + 1 + 1 + 1, w.heap.size + 1 + 1 + 1 + 1] V.heap.size (V.heap.size + 1) (V.heap.size + 1 + 1) bk ok m ck bz oz cz len :=
    ⟨⟨by omega, by simp; omega⟩, ⟨by omega, by simp; omega⟩, ⟨by omega, by simp; omega⟩, ⟨by omega, by simp; omega⟩, ⟨by omega, by simp; omega⟩, by omega, S1.c 0 rfl, S1.c 1 rfl, S1.c 2 rfl,
      by rw [HX.out.2.2.1]; exact S2.c 0 rfl, by rw [HX.out.2.2.2.1]; exact S2.c 1 rfl, by rw [HX.out.2.2.2.2.1]; exact S3.c 0 rfl, by rw [HX.out.2.2.2.2.2]; exact S3.c 1 rfl,
      fun i hi => by rw [HX.out.1]; exact keepC hbb (HK.out i (by omega)), fun i hi => by rw [HX.out.2.1]; exact keepC hbb (HZ.out i (by omega))⟩
  have oA' : Rp.Ok X.n1 X.d1 := by rw [HX.out.2.2.1, HX.out.2.2.2.1]; exact OA.out
  have oB' : Rp.Ok X.n2 X.d2 := by rw [HX.out.2.2.2.2.1, HX.out.2.2.2.2.2]; exact OB.out
  have hR' : ∀ k, k ≤ m → 0 ≤ Ck.at_ X.c k ∧ Ck.at_ X.c k ≤ 1000 := by rw [HX.out.1]; exact HR.out
  have hD' : ∀ k, k < m → 0 ≤ Ck.at_ X.d k ∧ Ck.at_ X.d k ≤ 12 := by rw [HX.out.2.1]; exact HD.out
  refine wpIn_rangeFunc_ownH (F := Fence.wide) rfl (by omega) (gf := 189) (lb := #[.pointer (some ⟨V.heap.size, 0, none⟩), .pointer (some ⟨V.heap.size + 1, 0, none⟩), .pointer (some ⟨V.heap.size + 1 + 1, 0, none⟩)]) (by rw [hA0]; rfl) trivial (enters_of Tryz.func189 (by kernel_rfl) rfl)
    (iter_stops X 8 _ _ _ bk ok m ck bz oz cz _ _ len w7 (by omega) hmm oA' oB' hR' hD' hBX)
    (fun h k => h.trans k) (fun W l o o' hl hg hc hw => KB.below' (belowK_b (w := w7) (by omega) W l o o' hl hg hc hw)) (Below.refl _ _) (fun _ => rfl)
    (fun pre W => VI X w7.heap.size w5.heap.size (w.heap.size + 1 + 1 + 1) (w.heap.size + 1 + 1 + 1 + 1) pre W ∧ Below w.heap.size w W) (fun c pre W => VX X (w.heap.size + 1 + 1 + 1) (w.heap.size + 1 + 1 + 1 + 1) c pre W ∧ Below w.heap.size w W)
    (OwnFrom.and VI.own (ownFrom_below (Nat.le_refl _) (by omega))) (fun c => OwnFrom.and VX.own (ownFrom_below (Nat.le_refl _) (by omega)))
    ⟨⟨Nat.le_refl _, 0, 1, rfl, Rp.Ok_one (by omega) (by omega), B9, B6, B7⟩, hbb⟩
    (fun x a' W => ∃ p, w7.heap.size ≤ p ∧ SB X x.1 W p ∧ a' = { tmps := ((((a0.tmps.setIfInBounds 39 (X.sv x.1)).setIfInBounds 40 (.int .i64 (X.wt x.1).2.2)).setIfInBounds 10 (.pointer (some ⟨p, 0, none⟩))).setIfInBounds 11 (.int .i64 (X.wt x.1).2.2)), defers := [] })
    (fun x a' _ A B row hs hg hr => by
      obtain ⟨p, hp, ⟨y0, y1, y2, y3, y4, hy, hb⟩, e⟩ := hs
      exact ⟨p, hp, ⟨y0, y1, y2, y3, y4, hy, hb.kept hg (fun r e => (hr r e).2)⟩, e⟩)
    ?assign ?body ?done ?stop
  case assign =>
    intro l pre x W K hi hK; obtain ⟨y0, y1, y2, y3, y4, hy⟩ := X.sv_cells x.1; subst hA0; rw [hy] at hK ⊢; obtain ⟨hi1, hi2⟩ := hi
    gi_wp2
    exact hK _ _ ((KeepsOthers.alloc _ _).from _) (KB.below (Nat.le_trans (by omega) hi1.1) (below_al (Below.refl _ _) _)) ⟨VI.own (B := 0) _ _ _ none hi1 (World.grownBy_alloc W _ none) (fun r e => by cases e), below_al hi2 _⟩ ⟨W.heap.size, hi1.1, ⟨y0, y1, y2, y3, y4, hy, BK.new _ _ _⟩, by rfl⟩
  case body =>
    rintro l pre x a' W hl hr ⟨⟨hN, s1, s2, hs, hok, b9, b6, b7⟩, hB⟩ ⟨p, hp, ⟨y0, y1, y2, y3, y4, hy, bp⟩, rfl⟩ hlt; subst hA0; have K0 : Kp2 w7.heap.size (V.heap.size + 3) [w5.heap.size, w.heap.size + 1 + 1 + 1, w.heap.size + 1 + 1 + 1 + 1] W W := Kp2.refl _ _ _ _
    have hxk : x.1 < m := by
      rcases Nat.lt_or_ge x.1 m with g | g
      · exact g
      · exact absurd (at_ge (by rw [HX.out.2.1, HM.out]; exact g)) x.2.1
    rcases X.wt_cases x.1 oA' oB' (hR' _ (by omega)) (hR' _ (by omega)) (hD' _ hxk) with ⟨hw, hwo⟩ | hw
    · obtain ⟨rfl, rfl, rfl, rfl, rfl⟩ := Ck.Sx.sv_of hy hw
      have hst : X.vall (pre ++ [x]) = Rp.addS s1 s2 (X.wt x.1).1 (X.wt x.1).2.1 := by
        rw [X.vall_snoc, hs]
        unfold Ck.Sx.vst
        rw [if_neg (by simp), if_neg (by rw [hw]; simp)]
      rw [hw]; clear hw hy; obtain ⟨⟨W1, W2, W3⟩, hWW⟩ : ∃ t, X.wt x.1 = t := ⟨_, rfl⟩; rw [hWW] at hwo hst bp; dsimp only at hwo hst bp; have ha := Rp.ofQ_cases (Rp.q s1 s2 + Rp.q W1 W2); rw [← Rp.addS_ok hok hwo] at ha; obtain ⟨⟨t1, t2, t3⟩, hT⟩ : ∃ t, Rp.addS s1 s2 W1 W2 = t := ⟨_, rfl⟩
      have cA := fun v => Add_any s1 s2 W1 W2 v (by have := hok.2.2.1; omega) (by have := hok.2.2.2.1; omega) (by have := hok.1; omega) (by have := hok.2.1; omega) (by have := hwo.2.2.1; omega) (by have := hwo.2.2.2.1; omega) (by have := hwo.1; omega) (by have := hwo.2.1; omega)
      rw [hT] at cA ha hst; dsimp only at cA ha; have CA := Lib.hid cA; have HST := Lib.hid hst; clear cA hst hT hWW hs; have c90 := b9.c 0 rfl; have c91 := b9.c 1 rfl; have p2 := bp.c 2 rfl; have p3 := bp.c 3 rfl; have g0 : (((0 : Int)) == 0) = true := rfl
      have ne1 : (w5.heap.size = w.heap.size + 1 + 1 + 1) = False := by simp; omega
      have ne2 : (w5.heap.size = w.heap.size + 1 + 1 + 1 + 1) = False := by simp; omega
      rcases ha with ⟨rfl, hto, _⟩ | hte
      · have g1 : (((0 : Int)) != 0) = false := rfl
        gi_wp2
        refine ⟨trivial, ?_⟩; refine (CallsIn.inRound l (callsIn_wide.2 (CA.out _))).mono ?_; rintro e w8 ⟨rfl, hb8⟩; have b9' := b9.keep hb8; have d90 := b9'.c 0 rfl; have d91 := b9'.c 1 rfl; have e90 := b9'.f 0 rfl; have e91 := b9'.f 1 rfl
        gi_wp2
        have hN' := Nat.le_trans hN hb8.size; have K2 := ((K0.below (by omega) hb8).set (b := w5.heap.size) (.inl (by simp)) 0 (.int .i64 t1)).set (b := w5.heap.size) (.inl (by simp)) 1 (.int .i64 t2); exact ⟨K2.kf, K2.kb, ⟨by simpa using hN', t1, t2, HST.out, hto, (b9'.set 0 _).set 1 _, ((b6.keep hb8).far (by omega) _ _).far (by omega) _ _, ((b7.keep hb8).far (by omega) _ _).far (by omega) _ _⟩, below_set (below_set (hB.trans (hb8.mono hB.size)) (by omega) _) (by omega) _⟩
      · simp only [Prod.mk.injEq] at hte
        obtain ⟨rfl, rfl, rfl⟩ := hte; have g1 : (((16 : Int)) != 0) = true := rfl
        gi_wp2
        refine ⟨trivial, ?_⟩; refine (CallsIn.inRound l (callsIn_wide.2 (CA.out _))).mono ?_; rintro e w8 ⟨rfl, hb8⟩; have b9' := b9.keep hb8; have d90 := b9'.c 0 rfl; have d91 := b9'.c 1 rfl; have e90 := b9'.f 0 rfl; have e91 := b9'.f 1 rfl; have b6' := b6.keep hb8; have b7' := b7.keep hb8; have d60 := b6'.c 0 rfl; have d61 := b6'.c 1 rfl; have e60 := b6'.f 0 rfl; have e61 := b6'.f 1 rfl; have d70 := b7'.c 0 rfl; have e70 := b7'.f 0 rfl
        gi_wp2
        have K2 := ((((((K0.below (by omega) hb8).set (b := w5.heap.size) (.inl (by simp)) 0 (.int .i64 0)).set (b := w5.heap.size) (.inl (by simp)) 1 (.int .i64 0)).set (b := w.heap.size + 1 + 1 + 1) (.inl (by simp)) 0 (.int .i64 0)).set (b := w.heap.size + 1 + 1 + 1) (.inl (by simp)) 1 (.int .i64 0)).set (b := w.heap.size + 1 + 1 + 1 + 1) (.inl (by simp)) 0 (.int .i64 16))
        exact ⟨K2.kf, ⟨rfl, HST.out, ((((b6'.far (by omega) _ _).far (by omega) _ _).set 0 _).set 1 _).far (by omega) _ _, ((((b7'.far (by omega) _ _).far (by omega) _ _).far (by omega) _ _).far (by omega) _ _).set 0 _⟩,
          below_set (below_set (below_set (below_set (below_set (hB.trans (hb8.mono hB.size)) (by omega) _) (by omega) _) (by omega) _) (by omega) _) (by omega) _⟩
    · have hst : X.vall (pre ++ [x]) = (0, 0, 16) := by
        rw [X.vall_snoc, hs]
        unfold Ck.Sx.vst
        rw [if_neg (by simp), if_pos (by rw [hw]; simp)]
      rw [hw]
      dsimp only
      have HST := Lib.hid hst; clear hst hs hw hy; have d60 := b6.c 0 rfl; have d61 := b6.c 1 rfl; have e60 := b6.f 0 rfl; have e61 := b6.f 1 rfl; have d70 := b7.c 0 rfl; have e70 := b7.f 0 rfl; have g0 : (((16 : Int)) == 0) = false := rfl; have g1 : (((16 : Int)) != 0) = true := rfl
      gi_wp2
      have K2 := ((K0.set (b := w.heap.size + 1 + 1 + 1) (.inl (by simp)) 0 (.int .i64 0)).set (b := w.heap.size + 1 + 1 + 1) (.inl (by simp)) 1 (.int .i64 0)).set (b := w.heap.size + 1 + 1 + 1 + 1) (.inl (by simp)) 0 (.int .i64 16); exact ⟨K2.kf, ⟨rfl, HST.out, ((b6.set 0 _).set 1 _).far (by omega) _ _, ((b7.far (by omega) _ _).far (by omega) _ _).set 0 _⟩, below_set (below_set (below_set hB (by omega) _) (by omega) _) (by omega) _⟩
  case done =>
    rintro D ys W hD rfl ⟨⟨hN, s1, s2, hs, hok, b9, b6, b7⟩, hB⟩ hKd; subst hA0; have hE := hs.symm.trans HRR.out
    simp only [Prod.mk.injEq] at hE
    obtain ⟨rfl, rfl, rfl⟩ := hE; have hsD := (Array.getElem?_eq_some_iff.1 hKd).1; have c90 := b9.c 0 rfl; have c91 := b9.c 1 rfl; have d60 := b6.c 0 rfl; have d61 := b6.c 1 rfl; have e60 := b6.f 0 rfl; have e61 := b6.f 1 rfl; have d70 := b7.c 0 rfl; have e70 := b7.f 0 rfl; clear hs
    gi_wp2
    (go_wp2_with fail); have b6z := ((b6.set 0 (.int .i64 s1)).set 1 (.int .i64 s2)).far (show w.heap.size + 1 + 1 + 1 + 1 ≠ w.heap.size + 1 + 1 + 1 by omega) 0 (.int .i64 0); have b7z := ((b7.far (show w.heap.size + 1 + 1 + 1 ≠ w.heap.size + 1 + 1 + 1 + 1 by omega) 0 (.int .i64 s1)).far (show w.heap.size + 1 + 1 + 1 ≠ w.heap.size + 1 + 1 + 1 + 1 by omega) 1 (.int .i64 s2)).set 0 (.int .i64 0); have hKz := (((KeepsOthers.setCell W ⟨w.heap.size + 1 + 1 + 1, 0, none⟩ (.int .i64 s1)).trans (KeepsOthers.setCell _ ⟨w.heap.size + 1 + 1 + 1, 1, none⟩ (.int .i64 s2))).trans (KeepsOthers.setCell _ ⟨w.heap.size + 1 + 1 + 1 + 1, 0, none⟩ (.int .i64 0))).same D _ hKd rfl; refine ⟨by simp, .inl ⟨_, _, rfl, run_takeDeferred hKz, ?_⟩⟩; have b6y := b6z.kept (grownBy_putObj' _ D (.deferred none)) (fun r e => by cases e; exact ⟨_, hKz, rfl⟩); have b7y := b7z.kept (grownBy_putObj' _ D (.deferred none)) (fun r e => by cases e; exact ⟨_, hKz, rfl⟩); have y0 := b6y.c 0 rfl; have y1 := b6y.c 1 rfl; have y2 := b7y.c 0 rfl; refine ⟨.tuple #[.agg #[.int .i64 s1, .int .i64 s2], .int .i64 0], ?_, rfl, (below_set (below_set (below_set hB (by omega) _) (by omega) _) (by omega) _).trans (belowK_b (w := w) (Nat.le_refl _) _ D _ _ (by omega) hKz rfl rfl)⟩
    simp [results, Tryz.results143, go_sem, y0, y1, y2]
  case stop =>
    rintro D c pre W hD ⟨k, hk, rfl⟩ ⟨⟨rfl, hs, b6, b7⟩, hB⟩ hKd; subst hA0; have hE := (X.vall_stay k (by rw [hs]; simp) hk).trans hs; have hE2 := hE.symm.trans HRR.out
    simp only [Prod.mk.injEq] at hE2
    obtain ⟨rfl, rfl, rfl⟩ := hE2; have hsD := (Array.getElem?_eq_some_iff.1 hKd).1; clear hE hs
    gi_wp2
    have b6z := b6; have b7z := b7; have hKz := (KeepsOthers.refl W).same D _ hKd rfl; refine ⟨by simp, .inl ⟨_, _, rfl, run_takeDeferred hKz, ?_⟩⟩; have b6y := b6z.kept (grownBy_putObj' _ D (.deferred none)) (fun r e => by cases e; exact ⟨_, hKz, rfl⟩); have b7y := b7z.kept (grownBy_putObj' _ D (.deferred none)) (fun r e => by cases e; exact ⟨_, hKz, rfl⟩); have y0 := b6y.c 0 rfl; have y1 := b6y.c 1 rfl; have y2 := b7y.c 0 rfl; refine ⟨.tuple #[.agg #[.int .i64 0, .int .i64 0], .int .i64 16], ?_, rfl, (hB).trans (belowK_b (w := w) (Nat.le_refl _) _ D _ _ (by omega) hKz rfl rfl)⟩
    simp [results, Tryz.results143, go_sem, y0, y1, y2]

end Go.Proofs.YtniagnldiegamaaGreat

