/- Package cake's Mark. -/
import Derived.Test.YtniagnldiegamaaGreatHs
namespace Go.Proofs.YtniagnldiegamaaGreat
open Go.RowKit Go.Shelf
attribute [local go_sem] Oper.semAt_some
/-- Mark's own cells, between two stretches. -/
def MI (X : Ck.Sx) (v1 v2 : Int) (N p9 p6 p7 : Nat) (pre : List X.It) (W : World) : Prop := N ≤ W.heap.size ∧ ∃ s1 s2 : Int, X.mall v1 v2 pre = .inl (s1, s2) ∧ Rp.Ok s1 s2 ∧ BK W p9 [.int .i64 s1, .int .i64 s2] ∧ BK W p6 [.int .i64 0, .int .i64 0] ∧ BK W p7 [.int .i64 0]
def MX (X : Ck.Sx) (v1 v2 : Int) (p6 p7 : Nat) (c : Code) (pre : List X.It) (W : World) : Prop := c = .ret ∧ ∃ r1 r2 r3 : Int, X.mall v1 v2 pre = .inr (r1, r2, r3) ∧ BK W p6 [.int .i64 r1, .int .i64 r2] ∧ BK W p7 [.int .i64 r3]
theorem MI.own {X : Ck.Sx} {v1 v2 : Int} {N p9 p6 p7 B : Nat} : OwnFrom B (MI X v1 v2 N p9 p6 p7) := fun _ _ _ _ hs hg hr => by
  obtain ⟨hN, s1, s2, e, o, b9, b6, b7⟩ := hs
  have hr' := fun r e => (hr r e).2
  exact ⟨Nat.le_trans hN hg.size, s1, s2, e, o, b9.kept hg hr', b6.kept hg hr', b7.kept hg hr'⟩
theorem MX.own {X : Ck.Sx} {v1 v2 : Int} {p6 p7 B : Nat} {c : Code} : OwnFrom B (MX X v1 v2 p6 p7 c) := fun _ _ _ _ hs hg hr => by
  obtain ⟨e, r1, r2, r3, e2, b6, b7⟩ := hs
  have hr' := fun r e => (hr r e).2
  exact ⟨e, r1, r2, r3, e2, b6.kept hg hr', b7.kept hg hr'⟩
set_option maxHeartbeats 2000000 in
set_option maxRecDepth 100000 in
theorem mark_zero (len : Int) (K : Option Addr) (cuts : List Int) (ck : Nat) (Z : Option Addr) (dens : List Int) (cz : Nat) (n1 d1 v1 v2 : Int) (w : World) (h : IsCake w len K cuts Z dens) (hc : Ck.chk len cuts dens = 0) (pa : Ck.pt len n1 d1 = true) (oV : Rp.Ok v1 v2) (h0 : v1 = 0) :
    Calls Tryz.prog 144 #[.agg #[.int .i64 len, .slice K cuts.length ck, .slice Z dens.length cz], .agg #[.int .i64 n1, .int .i64 d1], .agg #[.int .i64 v1, .int .i64 v2]] w fun e w' => e = .returned (.tuple #[.agg #[.int .i64 n1, .int .i64 d1], .int .i64 0]) ∧ Below w.heap.size w w' := by
  have hG := Ck.chk_good hc
  have cc := fun v (hb : Below w.heap.size w v) => ckCheck_any len K cuts ck Z dens cz v (h.keep hb)
  rw [hc] at cc; obtain ⟨oA, _, _⟩ := pt_spec pa
  have bA : I64 n1 ∧ I64 d1 := by obtain ⟨e1, e2, e3, e4, _⟩ := oA; exact ⟨⟨by omega, by omega⟩, by omega, by omega⟩
  have bB : I64 v1 ∧ I64 v2 := by obtain ⟨e1, e2, e3, e4, _⟩ := oV; exact ⟨⟨by omega, by omega⟩, by omega, by omega⟩
  have cp := fun v => ispoint_any len K cuts.length ck Z dens.length cz n1 d1 v hG.len0 hG.len1 bA.1 bA.2
  have cv := fun w => check_any v1 v2 w bB.1.1 bB.1.2 bB.2.1 bB.2.2
  rw [show Rp.chk v1 v2 = 0 from if_pos oV] at cv; rw [pa] at cp; have e0 : decide (v1 < 0) = false := decide_eq_false (by omega); have n0 : (((0 : Int)) != 0) = false := rfl
  have e1 : (v1 == 0) = true := by rw [h0]; rfl
  have CC := Lib.hid cc; have CP := Lib.hid cp; have CV := Lib.hid cv; clear cc cp cv hc pa oV oA bA bB h0 hG h
  go_enter Tryz.func144, Tryz.ntmps144
  (go_wp2_with fail); refine (CC.out _ ((((((Below.refl _ _).alloc (Nat.le_refl _) _).alloc (by simp) _).alloc (by simp; omega) _).alloc (by simp; omega) _).alloc (by simp; omega) _)).mono ?_; rintro e w1 ⟨rfl, hb⟩; have hbb : Below w.heap.size w w1 := keepB ((((((Below.refl _ _).alloc (Nat.le_refl _) _).alloc (by simp) _).alloc (by simp; omega) _).alloc (by simp; omega) _).alloc (by simp; omega) _) hb
  have B3 : BK w1 (w.heap.size) [.int .i64 len, .slice K cuts.length ck, .slice Z dens.length cz] := BK.keep (v := _) ⟨by simp <;> omega, fun j x e => by
    match j with
    | 0 => injection e with e; subst e; exact ⟨by go_simp, by go_simp⟩
    | 1 => injection e with e; subst e; exact ⟨by go_simp, by go_simp⟩
    | 2 => injection e with e; subst e; exact ⟨by go_simp, by go_simp⟩
    | j + 3 => cases e⟩ hb
  have B4 : BK w1 (w.heap.size + 1) [.int .i64 n1, .int .i64 d1] := BK.keep (v := _) ⟨by simp <;> omega, fun j x e => by
    match j with
    | 0 => injection e with e; subst e; exact ⟨by go_simp, by go_simp⟩
    | 1 => injection e with e; subst e; exact ⟨by go_simp, by go_simp⟩
    | j + 2 => cases e⟩ hb
  have B5 : BK w1 (w.heap.size + 1 + 1) [.int .i64 v1, .int .i64 v2] := BK.keep (v := _) ⟨by simp <;> omega, fun j x e => by
    match j with
    | 0 => injection e with e; subst e; exact ⟨by go_simp, by go_simp⟩
    | 1 => injection e with e; subst e; exact ⟨by go_simp, by go_simp⟩
    | j + 2 => cases e⟩ hb
  have B6 : BK w1 (w.heap.size + 1 + 1 + 1) [.int .i64 0, .int .i64 0] := BK.keep (v := _) ⟨by simp <;> omega, fun j x e => by
    match j with
    | 0 => injection e with e; subst e; exact ⟨by go_simp, by go_simp⟩
    | 1 => injection e with e; subst e; exact ⟨by go_simp, by go_simp⟩
    | j + 2 => cases e⟩ hb
  have B7 : BK w1 (w.heap.size + 1 + 1 + 1 + 1) [.int .i64 0] := BK.keep (v := _) ⟨by simp <;> omega, fun j x e => by
    match j with
    | 0 => injection e with e; subst e; exact ⟨by go_simp, by go_simp⟩
    | j + 1 => cases e⟩ hb
  clear hb; have b30 := B3.c 0 rfl; have b31 := B3.c 1 rfl; have b32 := B3.c 2 rfl; have b40 := B4.c 0 rfl; have b41 := B4.c 1 rfl; (go_wp2_with fail); refine (CP.out _).mono ?_; rintro e w2 ⟨rfl, hb⟩; clear b30 b31 b32 b40 b41; replace B3 := B3.keep hb; replace B4 := B4.keep hb; replace B5 := B5.keep hb; replace B6 := B6.keep hb; replace B7 := B7.keep hb; replace hbb := keepB hbb hb; clear hb; have b50 := B5.c 0 rfl; have b51 := B5.c 1 rfl; (go_wp2_with fail); refine (CV.out _).mono ?_; rintro e w3 ⟨rfl, hb⟩; clear b50 b51; replace B3 := B3.keep hb; replace B4 := B4.keep hb; replace B5 := B5.keep hb; replace B6 := B6.keep hb; replace B7 := B7.keep hb; replace hbb := keepB hbb hb; clear hb; have b50 := B5.c 0 rfl; have b51 := B5.c 1 rfl; have b40 := B4.c 0 rfl; have b41 := B4.c 1 rfl; have b60 := B6.c 0 rfl; have b61 := B6.c 1 rfl; have f60 := B6.f 0 rfl; have f61 := B6.f 1 rfl; have b70 := B7.c 0 rfl; have f70 := B7.f 0 rfl; (go_wp2_with fail); exact bodyPost_ret (v := .tuple #[.agg #[.int .i64 n1, .int .i64 d1], .int .i64 0]) (by simp [results, Tryz.results144, go_sem, b60, b61, b70]) rfl ⟨rfl, below_set (below_set (below_set hbb (by omega) _) (by omega) _) (by omega) _⟩

set_option linter.unusedSimpArgs false in
set_option maxHeartbeats 8000000 in
set_option maxRecDepth 100000 in
theorem mark_good (len : Int) (K : Option Addr) (cuts : List Int) (ck : Nat) (Z : Option Addr) (dens : List Int) (cz : Nat) (n1 d1 v1 v2 : Int) (w : World) (h : IsCake w len K cuts Z dens) (hc : Ck.chk len cuts dens = 0) (pa : Ck.pt len n1 d1 = true) (oV : Rp.Ok v1 v2) (h0 : 0 < v1) :
    Calls Tryz.prog 144 #[.agg #[.int .i64 len, .slice K cuts.length ck, .slice Z dens.length cz], .agg #[.int .i64 n1, .int .i64 d1], .agg #[.int .i64 v1, .int .i64 v2]] w fun e w' => e = .returned (.tuple #[.agg #[.int .i64 (Ck.mgo len cuts dens n1 d1 dens.length 0 v1 v2).1, .int .i64 (Ck.mgo len cuts dens n1 d1 dens.length 0 v1 v2).2.1], .int .i64 (Ck.mgo len cuts dens n1 d1 dens.length 0 v1 v2).2.2]) ∧ Below w.heap.size w w' := by
  have hG := Ck.chk_good hc
  have cc := fun v (hb : Below w.heap.size w v) => ckCheck_any len K cuts ck Z dens cz v (h.keep hb)
  rw [hc] at cc; obtain ⟨oA, _, _⟩ := pt_spec pa
  have bA : I64 n1 ∧ I64 d1 := by obtain ⟨e1, e2, e3, e4, _⟩ := oA; exact ⟨⟨by omega, by omega⟩, by omega, by omega⟩
  have bB : I64 v1 ∧ I64 v2 := by obtain ⟨e1, e2, e3, e4, _⟩ := oV; exact ⟨⟨by omega, by omega⟩, by omega, by omega⟩
  have cp := fun v => ispoint_any len K cuts.length ck Z dens.length cz n1 d1 v hG.len0 hG.len1 bA.1 bA.2
  have cv := fun w => check_any v1 v2 w bB.1.1 bB.1.2 bB.2.1 bB.2.2
  rw [show Rp.chk v1 v2 = 0 from if_pos oV] at cv; rw [pa] at cp; have e0 : decide (v1 < 0) = false := decide_eq_false (by omega); have n0 : (((0 : Int)) != 0) = false := rfl
  have e1 : (v1 == 0) = false := by simp; omega
  obtain ⟨X, hX⟩ : ∃ X : Ck.Sx, X = ⟨cuts, dens, n1, d1, len, 1⟩ := ⟨_, rfl⟩
  have x1 : X.c = cuts := by rw [hX]
  have x2 : X.d = dens := by rw [hX]
  have x3 : X.n1 = n1 := by rw [hX]
  have x4 : X.d1 = d1 := by rw [hX]
  have x5 : X.n2 = len := by rw [hX]
  have x6 : X.d2 = 1 := by rw [hX]
  have hmg := fun k hk => X.mgo_fold len x5 x6 v1 v2 dens.length k hk
  rw [x1, x2, x3, x4] at hmg; obtain ⟨_, _, iK, iZ⟩ := h; obtain ⟨bk, ok, rfl, hk⟩ := iK.1 (by have := hG.shape; omega); obtain ⟨bz, oz, rfl, hz⟩ := iZ.1 (by have := hG.shape; omega); obtain ⟨m, hm⟩ : ∃ m, dens.length = m := ⟨_, rfl⟩; have hsh := hG.shape
  have hn : cuts.length = m + 1 := by omega
  have hmm : m ≤ 39 := by omega
  have hm1 : 1 ≤ m := by omega
  have hR := hG.range
  have hD := fun k hk => (hG.step k hk).2
  have lk := lt_of_cell (hk 0 (by omega)); have lz := lt_of_cell (hz 0 (by omega)); have hl0 := hG.len0; have hl1 := hG.len1; rw [hm] at hz hR hD cc cp hmg ⊢; rw [hn] at hk cc cp; rw [hn]; have CC := Lib.hid cc; have CP := Lib.hid cp; have CV := Lib.hid cv; have HR := Lib.hid hR; have HD := Lib.hid hD; have HK := Lib.hid hk; have HZ := Lib.hid hz; obtain ⟨⟨R1, R2, R3⟩, hRR⟩ : ∃ R, Ck.mgo len cuts dens n1 d1 m 0 v1 v2 = R := ⟨_, rfl⟩; rw [hRR] at hmg ⊢
  dsimp only
  have HMG := Lib.hid (hmg m (Nat.le_refl _)); have HMH := Lib.hid hmg; have HX := Lib.hid (show X.c = cuts ∧ X.d = dens ∧ X.n1 = n1 ∧ X.d1 = d1 ∧ X.n2 = len ∧ X.d2 = 1 from ⟨x1, x2, x3, x4, x5, x6⟩); have OA := Lib.hid oA; have OV := Lib.hid oV; have HM := Lib.hid hm; have HL := Lib.hid (show 1 ≤ len ∧ len ≤ 1000 from ⟨hl0, hl1⟩); clear hRR cc cp cv hR hD hk hz iK iZ hG hsh hX x1 x2 x3 x4 x5 x6 hmg pa hc oA oV bA bB hm hn hl0 hl1 h0; refine (callsIn_wide (n := 9)).1 ?_; refine callsIn_of_wp_marks Tryz.func144 rfl trivial ?_ rfl; refine wpIn_wide.2 ?_
  simp only [Tryz.ntmps144, List.size_toArray, List.length_cons, List.length_nil, Nat.reduceAdd, Nat.reduceSub, Array.replicate_succ, Array.replicate_zero, List.push_toArray, List.append_toArray, List.nil_append, List.cons_append]
  (go_wp2_with fail); refine (CC.out _ ((((((Below.refl _ _).alloc (Nat.le_refl _) _).alloc (by simp) _).alloc (by simp; omega) _).alloc (by simp; omega) _).alloc (by simp; omega) _)).mono ?_; rintro e w1 ⟨rfl, hb⟩; have hbb : Below w.heap.size w w1 := keepB ((((((Below.refl _ _).alloc (Nat.le_refl _) _).alloc (by simp) _).alloc (by simp; omega) _).alloc (by simp; omega) _).alloc (by simp; omega) _) hb
  have B3 : BK w1 (w.heap.size) [.int .i64 len, .slice (some ⟨bk, ok, none⟩) (m + 1) ck, .slice (some ⟨bz, oz, none⟩) m cz] := BK.keep (v := _) ⟨by simp <;> omega, fun j x e => by
    match j with
    | 0 => injection e with e; subst e; exact ⟨by go_simp, by go_simp⟩
    | 1 => injection e with e; subst e; exact ⟨by go_simp, by go_simp⟩
    | 2 => injection e with e; subst e; exact ⟨by go_simp, by go_simp⟩
    | j + 3 => cases e⟩ hb
  have B4 : BK w1 (w.heap.size + 1) [.int .i64 n1, .int .i64 d1] := BK.keep (v := _) ⟨by simp <;> omega, fun j x e => by
    match j with
    | 0 => injection e with e; subst e; exact ⟨by go_simp, by go_simp⟩
    | 1 => injection e with e; subst e; exact ⟨by go_simp, by go_simp⟩
    | j + 2 => cases e⟩ hb
  have B5 : BK w1 (w.heap.size + 1 + 1) [.int .i64 v1, .int .i64 v2] := BK.keep (v := _) ⟨by simp <;> omega, fun j x e => by
    match j with
    | 0 => injection e with e; subst e; exact ⟨by go_simp, by go_simp⟩
    | 1 => injection e with e; subst e; exact ⟨by go_simp, by go_simp⟩
    | j + 2 => cases e⟩ hb
  have B6 : BK w1 (w.heap.size + 1 + 1 + 1) [.int .i64 0, .int .i64 0] := BK.keep (v := _) ⟨by simp <;> omega, fun j x e => by
    match j with
    | 0 => injection e with e; subst e; exact ⟨by go_simp, by go_simp⟩
    | 1 => injection e with e; subst e; exact ⟨by go_simp, by go_simp⟩
    | j + 2 => cases e⟩ hb
  have B7 : BK w1 (w.heap.size + 1 + 1 + 1 + 1) [.int .i64 0] := BK.keep (v := _) ⟨by simp <;> omega, fun j x e => by
    match j with
    | 0 => injection e with e; subst e; exact ⟨by go_simp, by go_simp⟩
    | j + 1 => cases e⟩ hb
  clear hb; have b30 := B3.c 0 rfl; have b31 := B3.c 1 rfl; have b32 := B3.c 2 rfl; have b40 := B4.c 0 rfl; have b41 := B4.c 1 rfl; (go_wp2_with fail); refine (CP.out _).mono ?_; rintro e w2 ⟨rfl, hb⟩; clear b30 b31 b32 b40 b41; replace B3 := B3.keep hb; replace B4 := B4.keep hb; replace B5 := B5.keep hb; replace B6 := B6.keep hb; replace B7 := B7.keep hb; replace hbb := keepB hbb hb; clear hb; have b50 := B5.c 0 rfl; have b51 := B5.c 1 rfl; (go_wp2_with fail); refine (CV.out _).mono ?_; rintro e w5 ⟨rfl, hb⟩; clear b50 b51; replace B3 := B3.keep hb; replace B4 := B4.keep hb; replace B5 := B5.keep hb; replace B6 := B6.keep hb; replace B7 := B7.keep hb; replace hbb := keepB hbb hb; clear hb; have b50 := B5.c 0 rfl; have b51 := B5.c 1 rfl
  go_upto_region 9 with fail
  clear b50 b51; refine at_worldQ (fun v => Below w.heap.size w v ∧ BK v (w.heap.size) [.int .i64 len, .slice (some ⟨bk, ok, none⟩) (m + 1) ck, .slice (some ⟨bz, oz, none⟩) m cz] ∧ BK v (w.heap.size + 1) [.int .i64 n1, .int .i64 d1] ∧ BK v (w.heap.size + 1 + 1) [.int .i64 v1, .int .i64 v2] ∧ BK v (w.heap.size + 1 + 1 + 1) [.int .i64 0, .int .i64 0] ∧ BK v (w.heap.size + 1 + 1 + 1 + 1) [.int .i64 0] ∧ BK v w5.heap.size [.int .i64 v1, .int .i64 v2]) ⟨below_al hbb _, B3.al _, B4.al _, B5.al _, B6.al _, B7.al _, BK.new _ _ _⟩ (fun V hS => ?_); have l5 := B7.lt; clear hbb B3 B4 B5 B6 B7 CC CP CV; obtain ⟨hbb, B3, B4, B5, B6, B7, B9⟩ := hS; have l9 := B9.lt; have c0 := B3.c 0 rfl; have c1 := B3.c 1 rfl; have c2 := B3.c 2 rfl; have a0c := B4.c 0 rfl; have a1c := B4.c 1 rfl; refine wp_region_noPanic ?_; refine wp_region_held_drew (S := (Below V.heap.size V)) (by kernel_rfl) ((Below.refl _ _).drew) (fun hHeld => ?_); refine at_anyH (Below V.heap.size V) hHeld (fun wm0 hNew => ?_); clear hHeld; have hHeld := hNew; clear hNew; refine tkm 0 rfl hHeld (fun w hSw => by have kc0 := keepC hSw c0; have kc1 := keepC hSw c1; have kc2 := keepC hSw c2; have ka0c := keepC hSw a0c; have ka1c := keepC hSw a1c; go_simp <;> with_reducible rfl) ?_; (try simp only [PPz]); refine tkm 1 rfl hHeld (fun w hSw => by have kc0 := keepC hSw c0; have kc1 := keepC hSw c1; have kc2 := keepC hSw c2; have ka0c := keepC hSw a0c; have ka1c := keepC hSw a1c; go_simp <;> with_reducible rfl) ?_; (try simp only [PPz]); refine tkd 2 ?_; (try simp only [PPz]); refine tkm 3 rfl hHeld (fun w hSw => by have kc0 := keepC hSw c0; have kc1 := keepC hSw c1; have kc2 := keepC hSw c2; have ka0c := keepC hSw a0c; have ka1c := keepC hSw a1c; go_simp <;> with_reducible rfl) ?_; (try simp only [PPz]); refine rdy1 4 rfl (fun K hK => ?_); go_simp; refine (ckwhole_any _ _).mono ?_; rintro e wm5 ⟨rfl, hb3⟩; (go_wp2_with fail); refine hK.out _ _ (keepB hHeld hb3) (fun hNew => ?_); replace hHeld := hNew; clear hNew hK K hb3; (try simp only [PPz]); refine rdy1 5 rfl (fun K hK => ?_); go_simp; refine (stretches_any len (some ⟨bk, ok, none⟩) (m + 1) ck (some ⟨bz, oz, none⟩) m cz n1 d1 len 1 _).mono ?_; rintro e wm6 ⟨rfl, ⟨S1, S2, S3⟩, hb3⟩; have hq := hHeld.size; (go_wp2_with fail); refine hK.out _ _ (keepB hHeld hb3) (fun hNew => ?_); replace hHeld := hNew; clear hNew hK K hb3; (try simp only [PPz]); refine wpAnyH_done (by kernel_rfl) ?_ _; refine NoPanic.normal ?_; (go_wp2_with fail); clear c0 c1 c2 a0c a1c; obtain ⟨q, hqe⟩ : ∃ q, q = wm5.heap.size := ⟨_, rfl⟩; rw [← hqe] at S1 S2 S3 hq ⊢; refine at_worldQ (fun v => Below V.heap.size V v ∧ BK v q [.int .i64 len, .slice (some ⟨bk, ok, none⟩) (m + 1) ck, .slice (some ⟨bz, oz, none⟩) m cz] ∧ BK v (q + 1) [.int .i64 n1, .int .i64 d1] ∧ BK v (q + 1 + 1) [.int .i64 len, .int .i64 1]) ⟨hHeld, S1, S2, S3⟩ (fun w7 hS => ?_); clear hHeld S1 S2 S3 hqe; obtain ⟨hb, S1, S2, S3⟩ := hS; replace B3 := B3.keep hb; replace B4 := B4.keep hb; replace B5 := B5.keep hb; replace B6 := B6.keep hb; replace B7 := B7.keep hb; replace B9 := B9.keep hb; replace hbb := keepB hbb hb; have hl7 := S3.lt; refine (wpIn_wide (n := 9)).1 ?_; refine name_act (fun a0 hA0 => ?_); have nB : w.heap.size + 1 + 1 + 1 + 1 < w5.heap.size := l5
  have hBX : Boxes X w7 (q + 3) [w5.heap.size, w.heap.size + 1 + 1 + 1, w.heap.size + 1 + 1 + 1 + 1] q (q + 1) (q + 1 + 1) bk ok m ck bz oz cz len :=
    ⟨⟨by omega, by simp; omega⟩, ⟨by omega, by simp; omega⟩, ⟨by omega, by simp; omega⟩, ⟨by omega, by simp; omega⟩, ⟨by omega, by simp; omega⟩, by omega, S1.c 0 rfl, S1.c 1 rfl, S1.c 2 rfl,
      by rw [HX.out.2.2.1]; exact S2.c 0 rfl, by rw [HX.out.2.2.2.1]; exact S2.c 1 rfl, by rw [HX.out.2.2.2.2.1]; exact S3.c 0 rfl, by rw [HX.out.2.2.2.2.2]; exact S3.c 1 rfl,
      fun i hi => by rw [HX.out.1]; exact keepC hbb (HK.out i (by omega)), fun i hi => by rw [HX.out.2.1]; exact keepC hbb (HZ.out i (by omega))⟩
  have oA' : Rp.Ok X.n1 X.d1 := by rw [HX.out.2.2.1, HX.out.2.2.2.1]; exact OA.out
  have oB' : Rp.Ok X.n2 X.d2 := by rw [HX.out.2.2.2.2.1, HX.out.2.2.2.2.2]; exact Rp.Ok_one (by have := HL.out; omega) (by have := HL.out; omega)
  have hR' : ∀ k, k ≤ m → 0 ≤ Ck.at_ X.c k ∧ Ck.at_ X.c k ≤ 1000 := by rw [HX.out.1]; exact HR.out
  have hD' : ∀ k, k < m → 0 ≤ Ck.at_ X.d k ∧ Ck.at_ X.d k ≤ 12 := by rw [HX.out.2.1]; exact HD.out
  refine wpIn_rangeFunc_ownH (F := Fence.wide) rfl (by omega) (gf := 189) (lb := #[.pointer (some ⟨q, 0, none⟩), .pointer (some ⟨q + 1, 0, none⟩), .pointer (some ⟨q + 1 + 1, 0, none⟩)]) (by rw [hA0]; rfl) trivial (enters_of Tryz.func189 (by kernel_rfl) rfl)
    (iter_stops X 8 _ _ _ bk ok m ck bz oz cz _ _ len w7 (by omega) hmm oA' oB' hR' hD' hBX)
    (fun h k => h.trans k) (fun W l o o' hl hg hc hw => KB.below' (belowK_b (w := w7) (by omega) W l o o' hl hg hc hw)) (Below.refl _ _) (fun _ => rfl)
    (fun pre W => MI X v1 v2 w7.heap.size w5.heap.size (w.heap.size + 1 + 1 + 1) (w.heap.size + 1 + 1 + 1 + 1) pre W ∧ Below w.heap.size w W) (fun c pre W => MX X v1 v2 (w.heap.size + 1 + 1 + 1) (w.heap.size + 1 + 1 + 1 + 1) c pre W ∧ Below w.heap.size w W)
    (OwnFrom.and MI.own (ownFrom_below (Nat.le_refl _) (by omega))) (fun c => OwnFrom.and MX.own (ownFrom_below (Nat.le_refl _) (by omega)))
    ⟨⟨Nat.le_refl _, v1, v2, rfl, OV.out, B9, B6, B7⟩, hbb⟩
    (fun x a' W => ∃ p, w7.heap.size ≤ p ∧ SB X x.1 W p ∧ a' = { tmps := ((((a0.tmps.setIfInBounds 44 (X.sv x.1)).setIfInBounds 45 (.int .i64 (X.wt x.1).2.2)).setIfInBounds 10 (.pointer (some ⟨p, 0, none⟩))).setIfInBounds 11 (.int .i64 (X.wt x.1).2.2)), defers := [] })
    (fun x a' _ A B row hs hg hr => by
      obtain ⟨p, hp, ⟨y0, y1, y2, y3, y4, hy, hb⟩, e⟩ := hs
      exact ⟨p, hp, ⟨y0, y1, y2, y3, y4, hy, hb.kept hg (fun r e => (hr r e).2)⟩, e⟩)
    ?assign ?body ?done ?stop
  case assign =>
    intro l pre x W K hi hK; obtain ⟨y0, y1, y2, y3, y4, hy⟩ := X.sv_cells x.1; subst hA0; rw [hy] at hK ⊢; obtain ⟨hi1, hi2⟩ := hi
    gi_wp2
    exact hK _ _ ((KeepsOthers.alloc _ _).from _) (KB.below (Nat.le_trans (by omega) hi1.1) (below_al (Below.refl _ _) _)) ⟨MI.own (B := 0) _ _ _ none hi1 (World.grownBy_alloc W _ none) (fun r e => by cases e), below_al hi2 _⟩ ⟨W.heap.size, hi1.1, ⟨y0, y1, y2, y3, y4, hy, BK.new _ _ _⟩, by rfl⟩
  case body =>
    rintro l pre x a' W hl hr ⟨⟨hN, s1, s2, hs, hok, b9, b6, b7⟩, hB⟩ ⟨p, hp, ⟨y0, y1, y2, y3, y4, hy, bp⟩, rfl⟩ hlt; subst hA0; have K0 : Kp2 w7.heap.size (q + 3) [w5.heap.size, w.heap.size + 1 + 1 + 1, w.heap.size + 1 + 1 + 1 + 1] W W := Kp2.refl _ _ _ _
    have hxk : x.1 < m := by
      rcases Nat.lt_or_ge x.1 m with g | g
      · exact g
      · exact absurd (at_ge (by rw [HX.out.2.1, HM.out]; exact g)) x.2.1
    have hd1 := hD' _ hxk; have hd0 := x.2.1
    have ne1 : (w5.heap.size = w.heap.size + 1 + 1 + 1) = False := by simp; omega
    have ne2 : (w5.heap.size = w.heap.size + 1 + 1 + 1 + 1) = False := by simp; omega
    rcases X.wt_cases x.1 oA' oB' (hR' _ (by omega)) (hR' _ (by omega)) hd1 with ⟨hw, hwo⟩ | hw
    · obtain ⟨rfl, rfl, rfl, rfl, rfl⟩ := Ck.Sx.sv_of hy hw
      have hst := X.mall_snoc v1 v2 pre x; rw [hs] at hst
      unfold Ck.Sx.mst at hst
      dsimp only at hst; rw [if_neg (by rw [hw]; simp)] at hst; rw [hw]; have obg : Rp.Ok (X.bg x.1).1 (X.bg x.1).2 := (Ck.mxS_ok oA' (Rp.Ok_one (F := Ck.at_ X.c x.1) (by have := hR' x.1 (by omega); omega) (by have := hR' x.1 (by omega); omega))).1
      have cR := fun v => ckreach_any (X.bg x.1).1 (X.bg x.1).2 (X.wt x.1).1 (X.wt x.1).2.1 (Ck.at_ X.d x.1) s1 s2 obg hok (by omega) (by omega) v
      clear hw hy; obtain ⟨⟨W1, W2, W3⟩, hWW⟩ : ∃ t, X.wt x.1 = t := ⟨_, rfl⟩; obtain ⟨⟨r1, r2, r3⟩, hRR⟩ : ∃ t, Ck.rchS (X.bg x.1).1 (X.bg x.1).2 (Ck.at_ X.d x.1) s1 s2 = t := ⟨_, rfl⟩; rw [hWW] at hwo hst bp cR; rw [hRR] at hst cR; dsimp only at hwo hst bp cR
      generalize (X.bg x.1).1 = y0 at *
      generalize (X.bg x.1).2 = y1 at *
      generalize Ck.at_ X.d x.1 = y4 at *
      have ha := Rp.ofQ_cases (Rp.q s1 s2 - Rp.q W1 W2); rw [← Rp.subS_ok hok hwo] at ha; obtain ⟨⟨t1, t2, t3⟩, hT⟩ : ∃ t, Rp.subS s1 s2 W1 W2 = t := ⟨_, rfl⟩
      have cA := fun v => Sub_any s1 s2 W1 W2 v (by have := hok.2.2.1; omega) (by have := hok.2.2.2.1; omega) (by have := hok.1; omega) (by have := hok.2.1; omega) (by have := hwo.2.2.1; omega) (by have := hwo.2.2.2.1; omega) (by have := hwo.1; omega) (by have := hwo.2.1; omega)
      have cL := fun v => ckless_any W1 W2 s1 s2 hwo hok v
      rw [hT] at cA ha hst; dsimp only at cA ha hst; clear hT hWW hRR hs obg hd0 hd1; have g0 : (((0 : Int)) == 0) = true := rfl; have d90 := b9.c 0 rfl; have f90 := b9.f 0 rfl; have d91 := b9.c 1 rfl; have f91 := b9.f 1 rfl; have dp0 := bp.c 0 rfl; have fp0 := bp.f 0 rfl; have dp1 := bp.c 1 rfl; have fp1 := bp.f 1 rfl; have dp2 := bp.c 2 rfl; have fp2 := bp.f 2 rfl; have dp3 := bp.c 3 rfl; have fp3 := bp.f 3 rfl; have dp4 := bp.c 4 rfl; have fp4 := bp.f 4 rfl; have d60 := b6.c 0 rfl; have f60 := b6.f 0 rfl; have d61 := b6.c 1 rfl; have f61 := b6.f 1 rfl; have d70 := b7.c 0 rfl; have f70 := b7.f 0 rfl
      by_cases hlt2 : Rp.q W1 W2 < Rp.q s1 s2
      · rw [if_neg (by simpa using hlt2)] at hst
        rw [decide_eq_true hlt2] at cL; have CL := Lib.hid cL; have CA := Lib.hid cA; clear cL cA cR hlt2
        rcases ha with ⟨rfl, hto, _⟩ | hte
        · rw [if_neg (by simp)] at hst
          have HST := Lib.hid hst; clear hst; have g1 : (((0 : Int)) != 0) = false := rfl
          gi_wp2
          refine ⟨trivial, ?_⟩; refine (CallsIn.inRound l (callsIn_wide.2 (CL.out _))).mono ?_; rintro e w8 ⟨rfl, hb8⟩; have b9' := b9.keep hb8; have b6' := b6.keep hb8; have b7' := b7.keep hb8; have bp' := bp.keep hb8; have d80 := b9'.c 0 rfl; have f80 := b9'.f 0 rfl; have d81 := b9'.c 1 rfl; have f81 := b9'.f 1 rfl; have dq0 := bp'.c 0 rfl; have fq0 := bp'.f 0 rfl; have dq1 := bp'.c 1 rfl; have fq1 := bp'.f 1 rfl; have dq2 := bp'.c 2 rfl; have fq2 := bp'.f 2 rfl; have dq3 := bp'.c 3 rfl; have fq3 := bp'.f 3 rfl; have dq4 := bp'.c 4 rfl; have fq4 := bp'.f 4 rfl
          gi_wp2
          refine ⟨trivial, ?_⟩; refine (CallsIn.inRound l (callsIn_wide.2 (CA.out _))).mono ?_; rintro e w9 ⟨rfl, hb9⟩; have b9' := b9'.keep hb9; have d9x0 := b9'.c 0 rfl; have f9x0 := b9'.f 0 rfl; have d9x1 := b9'.c 1 rfl; have f9x1 := b9'.f 1 rfl
          gi_wp2
          have hN' := Nat.le_trans hN (Nat.le_trans hb8.size hb9.size); have K2 := ((((K0.below (by omega) hb8).below (by have := hb8.size; omega) hb9).set (b := w5.heap.size) (.inl (by simp)) 0 (.int .i64 t1)).set (b := w5.heap.size) (.inl (by simp)) 1 (.int .i64 t2)); exact ⟨K2.kf, K2.kb, ⟨by simpa using hN', t1, t2, HST.out, hto, (b9'.set 0 _).set 1 _, ((b6'.keep hb9).far (by omega) _ _).far (by omega) _ _, ((b7'.keep hb9).far (by omega) _ _).far (by omega) _ _⟩, below_set (below_set ((hB.trans (hb8.mono hB.size)).trans (hb9.mono (Nat.le_trans hB.size hb8.size))) (by omega) _) (by omega) _⟩
        · simp only [Prod.mk.injEq] at hte
          obtain ⟨rfl, rfl, rfl⟩ := hte; rw [if_pos (by simp)] at hst; have HST := Lib.hid hst; clear hst; have g1 : (((16 : Int)) != 0) = true := rfl
          gi_wp2
          refine ⟨trivial, ?_⟩; refine (CallsIn.inRound l (callsIn_wide.2 (CL.out _))).mono ?_; rintro e w8 ⟨rfl, hb8⟩; have b9' := b9.keep hb8; have b6' := b6.keep hb8; have b7' := b7.keep hb8; have bp' := bp.keep hb8; have d80 := b9'.c 0 rfl; have f80 := b9'.f 0 rfl; have d81 := b9'.c 1 rfl; have f81 := b9'.f 1 rfl; have dq0 := bp'.c 0 rfl; have fq0 := bp'.f 0 rfl; have dq1 := bp'.c 1 rfl; have fq1 := bp'.f 1 rfl; have dq2 := bp'.c 2 rfl; have fq2 := bp'.f 2 rfl; have dq3 := bp'.c 3 rfl; have fq3 := bp'.f 3 rfl; have dq4 := bp'.c 4 rfl; have fq4 := bp'.f 4 rfl
          gi_wp2
          refine ⟨trivial, ?_⟩; refine (CallsIn.inRound l (callsIn_wide.2 (CA.out _))).mono ?_; rintro e w9 ⟨rfl, hb9⟩; have b9' := b9'.keep hb9; have b6' := b6'.keep hb9; have b7' := b7'.keep hb9; have d9x0 := b9'.c 0 rfl; have f9x0 := b9'.f 0 rfl; have d9x1 := b9'.c 1 rfl; have f9x1 := b9'.f 1 rfl; have d6x0 := b6'.c 0 rfl; have f6x0 := b6'.f 0 rfl; have d6x1 := b6'.c 1 rfl; have f6x1 := b6'.f 1 rfl; have d7x0 := b7'.c 0 rfl; have f7x0 := b7'.f 0 rfl
          gi_wp2
          have K2 := (((((((K0.below (by omega) hb8).below (by have := hb8.size; omega) hb9).set (b := w5.heap.size) (.inl (by simp)) 0 (.int .i64 0)).set (b := w5.heap.size) (.inl (by simp)) 1 (.int .i64 0)).set (b := w.heap.size + 1 + 1 + 1) (.inl (by simp)) 0 (.int .i64 0)).set (b := w.heap.size + 1 + 1 + 1) (.inl (by simp)) 1 (.int .i64 0)).set (b := w.heap.size + 1 + 1 + 1 + 1) (.inl (by simp)) 0 (.int .i64 16)); exact ⟨K2.kf, ⟨rfl, 0, 0, 16, HST.out, (((((b6'.far (by omega) _ _).far (by omega) _ _).set 0 _).set 1 _).far (by omega) _ _), (((((b7'.far (by omega) _ _).far (by omega) _ _).far (by omega) _ _).far (by omega) _ _).set 0 _)⟩, below_set (below_set (below_set (below_set (below_set ((hB.trans (hb8.mono hB.size)).trans (hb9.mono (Nat.le_trans hB.size hb8.size))) (by omega) _) (by omega) _) (by omega) _) (by omega) _) (by omega) _⟩
      · rw [if_pos (by simpa using hlt2)] at hst
        rw [decide_eq_false hlt2] at cL; have CL := Lib.hid cL; have CR := Lib.hid cR; have HST := Lib.hid hst; clear cL cA cR hlt2 hst ha
        gi_wp2
        refine ⟨trivial, ?_⟩; refine (CallsIn.inRound l (callsIn_wide.2 (CL.out _))).mono ?_; rintro e w8 ⟨rfl, hb8⟩; have b9' := b9.keep hb8; have b6' := b6.keep hb8; have b7' := b7.keep hb8; have bp' := bp.keep hb8; have d80 := b9'.c 0 rfl; have f80 := b9'.f 0 rfl; have d81 := b9'.c 1 rfl; have f81 := b9'.f 1 rfl; have dq0 := bp'.c 0 rfl; have fq0 := bp'.f 0 rfl; have dq1 := bp'.c 1 rfl; have fq1 := bp'.f 1 rfl; have dq2 := bp'.c 2 rfl; have fq2 := bp'.f 2 rfl; have dq3 := bp'.c 3 rfl; have fq3 := bp'.f 3 rfl; have dq4 := bp'.c 4 rfl; have fq4 := bp'.f 4 rfl
        gi_wp2
        refine ⟨trivial, ?_⟩; refine (CallsIn.inRound l (callsIn_wide.2 (CR.out _))).mono ?_; rintro e w9 ⟨rfl, hb9⟩; have b6' := b6'.keep hb9; have b7' := b7'.keep hb9; have d6x0 := b6'.c 0 rfl; have f6x0 := b6'.f 0 rfl; have d6x1 := b6'.c 1 rfl; have f6x1 := b6'.f 1 rfl; have d7x0 := b7'.c 0 rfl; have f7x0 := b7'.f 0 rfl
        gi_wp2
        have K2 := (((((K0.below (by omega) hb8).below (by have := hb8.size; omega) hb9).set (b := w.heap.size + 1 + 1 + 1) (.inl (by simp)) 0 (.int .i64 r1)).set (b := w.heap.size + 1 + 1 + 1) (.inl (by simp)) 1 (.int .i64 r2)).set (b := w.heap.size + 1 + 1 + 1 + 1) (.inl (by simp)) 0 (.int .i64 r3)); exact ⟨K2.kf, ⟨rfl, r1, r2, r3, HST.out, (((b6'.set 0 _).set 1 _).far (by omega) _ _), (((b7'.far (by omega) _ _).far (by omega) _ _).set 0 _)⟩, below_set (below_set (below_set ((hB.trans (hb8.mono hB.size)).trans (hb9.mono (Nat.le_trans hB.size hb8.size))) (by omega) _) (by omega) _) (by omega) _⟩
    · have hst := X.mall_snoc v1 v2 pre x
      rw [hs] at hst
      unfold Ck.Sx.mst at hst
      dsimp only at hst; rw [if_pos (by rw [hw]; simp)] at hst; rw [hw]
      dsimp only
      have HST := Lib.hid hst; clear hst hs hw hy hd0 hd1; have d60 := b6.c 0 rfl; have f60 := b6.f 0 rfl; have d61 := b6.c 1 rfl; have f61 := b6.f 1 rfl; have d70 := b7.c 0 rfl; have f70 := b7.f 0 rfl; have g0 : (((16 : Int)) == 0) = false := rfl; have g1 : (((16 : Int)) != 0) = true := rfl
      gi_wp2
      refine ⟨trivial, ?_⟩
      gi_wp2
      have K2 := (((K0.set (b := w.heap.size + 1 + 1 + 1) (.inl (by simp)) 0 (.int .i64 0)).set (b := w.heap.size + 1 + 1 + 1) (.inl (by simp)) 1 (.int .i64 0)).set (b := w.heap.size + 1 + 1 + 1 + 1) (.inl (by simp)) 0 (.int .i64 16)); exact ⟨K2.kf, ⟨rfl, 0, 0, 16, HST.out, (((b6.set 0 _).set 1 _).far (by omega) _ _), (((b7.far (by omega) _ _).far (by omega) _ _).set 0 _)⟩, below_set (below_set (below_set (hB) (by omega) _) (by omega) _) (by omega) _⟩
  case done =>
    rintro D ys W hD rfl ⟨⟨hN, s1, s2, hs, hok, b9, b6, b7⟩, hB⟩ hKd; subst hA0; have hE := HMG.out.1 _ hs
    have hz : Ck.mgo len cuts dens n1 d1 (m - m) m s1 s2 = (0, 0, 6) := by rw [Nat.sub_self]; rfl
    have hE2 := hE.trans hz
    simp only [Prod.mk.injEq] at hE2
    obtain ⟨rfl, rfl, rfl⟩ := hE2; clear hs hE hz; have hsD := (Array.getElem?_eq_some_iff.1 hKd).1; have d90 := b9.c 0 rfl; have f90 := b9.f 0 rfl; have d91 := b9.c 1 rfl; have f91 := b9.f 1 rfl; have d60 := b6.c 0 rfl; have f60 := b6.f 0 rfl; have d61 := b6.c 1 rfl; have f61 := b6.f 1 rfl; have d70 := b7.c 0 rfl; have f70 := b7.f 0 rfl
    gi_wp2
    (go_wp2_with fail); have b6z := ((b6.set 0 (.int .i64 0)).set 1 (.int .i64 0)).far (show w.heap.size + 1 + 1 + 1 + 1 ≠ w.heap.size + 1 + 1 + 1 by omega) 0 (.int .i64 6); have b7z := ((b7.far (show w.heap.size + 1 + 1 + 1 ≠ w.heap.size + 1 + 1 + 1 + 1 by omega) 0 (.int .i64 0)).far (show w.heap.size + 1 + 1 + 1 ≠ w.heap.size + 1 + 1 + 1 + 1 by omega) 1 (.int .i64 0)).set 0 (.int .i64 6); have hKz := (((KeepsOthers.setCell W ⟨w.heap.size + 1 + 1 + 1, 0, none⟩ (.int .i64 0)).trans (KeepsOthers.setCell _ ⟨w.heap.size + 1 + 1 + 1, 1, none⟩ (.int .i64 0))).trans (KeepsOthers.setCell _ ⟨w.heap.size + 1 + 1 + 1 + 1, 0, none⟩ (.int .i64 6))).same D _ hKd rfl; refine ⟨by simp, .inl ⟨_, _, rfl, run_takeDeferred hKz, ?_⟩⟩; have b6y := b6z.kept (grownBy_putObj' _ D (.deferred none)) (fun r e => by cases e; exact ⟨_, hKz, rfl⟩); have b7y := b7z.kept (grownBy_putObj' _ D (.deferred none)) (fun r e => by cases e; exact ⟨_, hKz, rfl⟩); have y0 := b6y.c 0 rfl; have y1 := b6y.c 1 rfl; have y2 := b7y.c 0 rfl; refine ⟨.tuple #[.agg #[.int .i64 0, .int .i64 0], .int .i64 6], ?_, rfl, (below_set (below_set (below_set (hB) (by omega) _) (by omega) _) (by omega) _).trans (belowK_b (w := w) (Nat.le_refl _) _ D _ _ (by omega) hKz rfl rfl)⟩
    simp [results, Tryz.results144, go_sem, y0, y1, y2]
  case stop =>
    rintro D c pre W hD ⟨k, hk, rfl⟩ ⟨⟨rfl, r1, r2, r3, hs, b6, b7⟩, hB⟩ hKd; subst hA0; have hE := (HMH.out k hk).2 _ hs
    simp only [Prod.mk.injEq] at hE
    obtain ⟨rfl, rfl, rfl⟩ := hE; have hsD := (Array.getElem?_eq_some_iff.1 hKd).1; clear hs
    gi_wp2
    have b6z := b6; have b7z := b7; have hKz := (KeepsOthers.refl W).same D _ hKd rfl; refine ⟨by simp, .inl ⟨_, _, rfl, run_takeDeferred hKz, ?_⟩⟩; have b6y := b6z.kept (grownBy_putObj' _ D (.deferred none)) (fun r e => by cases e; exact ⟨_, hKz, rfl⟩); have b7y := b7z.kept (grownBy_putObj' _ D (.deferred none)) (fun r e => by cases e; exact ⟨_, hKz, rfl⟩); have y0 := b6y.c 0 rfl; have y1 := b6y.c 1 rfl; have y2 := b7y.c 0 rfl; refine ⟨.tuple #[.agg #[.int .i64 R1, .int .i64 R2], .int .i64 R3], ?_, rfl, (hB).trans (belowK_b (w := w) (Nat.le_refl _) _ D _ _ (by omega) hKz rfl rfl)⟩
    simp [results, Tryz.results144, go_sem, y0, y1, y2]
end Go.Proofs.YtniagnldiegamaaGreat

