/- What the statements on pieces use: valid, of, is, alive. -/
import Derived.Test.YtnnpmegknlgkoaaPrset
import Derived.Test.YtnnpmegknlgkoaaPmake
import Derived.Test.YtnnpmegknlgkoaaPcut
import Derived.Test.YtnnpmegknlgkoaaPlen
namespace Go.Proofs.Ytnnpmegknlgkoaa
open Go.RowKit
def Pc.validB (xs : List Raw) : Bool := !Pc.greatB xs.length && decide (Pc.chk xs = 0)
set_option maxHeartbeats 1000000 in
theorem of_any (a b : Int) (w : World) : Calls Try.prog 8 #[.int .i64 a, .int .i64 b] w fun e w' => e = .returned (.agg #[.int .i64 a, .int .i64 1, .int .i64 b, .int .i64 1]) ∧ Below w.heap.size w w' := by
  go_enter Try.func8, Try.ntmps8
  go_upto_region 1 with fail
  refine at_worldQ (fun v => Below w.heap.size w v ∧ BK v w.heap.size [.int .i64 0, .int .i64 0, .int .i64 0, .int .i64 0]) ⟨below_al (Below.refl _ _) _, BK.new w [.int .i64 0, .int .i64 0, .int .i64 0, .int .i64 0] _⟩ (fun V hS => ?_)
  obtain ⟨hbb, B⟩ := hS
  have r0 := B.c 0 rfl
  have r1 := B.c 1 rfl
  have r2 := B.c 2 rfl
  have r3 := B.c 3 rfl
  have f0 := B.f 0 rfl
  have f1 := B.f 1 rfl
  have f2 := B.f 2 rfl
  have f3 := B.f 3 rfl
  go_wp2_with fail
  exact bodyPost_ret (v := .agg #[.int .i64 a, .int .i64 1, .int .i64 b, .int .i64 1]) (by simp [results, Try.results8, go_sem, r0, r1, r2, r3]) rfl ⟨rfl, below_set (below_set (below_set (below_set hbb (Nat.le_refl _) _) (Nat.le_refl _) _) (Nat.le_refl _) _) (Nat.le_refl _) _⟩
set_option maxHeartbeats 1000000 in
theorem is_any (A B : Option Addr) (ca cb : Nat) (xs : List Raw) (w : World) (ha : IsS w A xs) (hb : IsS w B xs) : Calls Try.prog 13 #[.slice A xs.length ca, .int .i64 0, .slice B xs.length cb] w fun e w' => e = .returned (.bool true) ∧ Below w.heap.size w w' := by
  have SA := Lib.hid (fun v (hv : Below w.heap.size w v) => rpSame_any A B ca cb xs v (ha.keep hv) (hb.keep hv))
  have e1 : ((0 : Int) == 0) = true := rfl
  clear ha hb
  go_enter Try.func13, Try.ntmps13
  go_wp2_with fail
  refine (SA.out _ (Below.refl _ _)).mono ?_
  rintro e w1 ⟨rfl, hb1⟩
  go_wp2_with fail
  go_ret
  exact ⟨rfl, hb1⟩
theorem fld0 (a b c d : Int) (v : World) : Sem.run Try.prog (Instr.field 25 (.agg #[.int .i64 a, .int .i64 b, .int .i64 c, .int .i64 d]) 0) v = .ok (.agg #[.int .i64 a, .int .i64 b]) v := by kernel_rfl
theorem fld1 (a b c d : Int) (v : World) : Sem.run Try.prog (Instr.field 25 (.agg #[.int .i64 a, .int .i64 b, .int .i64 c, .int .i64 d]) 1) v = .ok (.agg #[.int .i64 c, .int .i64 d]) v := by kernel_rfl
theorem fits_of {L : List (Rat × Rat)} (h : ((Pc.ends L).all fun r => Rp.okB r.num (r.den : Int)) = true) : ∀ r ∈ Pc.ends L, Pc.Fit r := fun r hr => by
  have h1 := List.all_eq_true.1 h r hr
  unfold Rp.okB at h1
  unfold Pc.Fit
  exact of_decide_eq_true h1
def rawV (l : List Raw) : List Value := l.flatMap fun s => [.int .i64 s.a, .int .i64 s.b, .int .i64 s.c, .int .i64 s.d]
theorem rawV_at : ∀ {l : List Raw} {k : Nat}, k < l.length → (rawV l)[k * 4]? = some (.int .i64 (Pc.at_ l k).a) ∧ (rawV l)[k * 4 + 1]? = some (.int .i64 (Pc.at_ l k).b) ∧ (rawV l)[k * 4 + 2]? = some (.int .i64 (Pc.at_ l k).c) ∧ (rawV l)[k * 4 + 3]? = some (.int .i64 (Pc.at_ l k).d)
  | s :: l, 0, _ => ⟨rfl, rfl, rfl, rfl⟩
  | s :: l, k + 1, h => by
    have ih := rawV_at (l := l) (k := k) (by simpa using h)
    have e : rawV (s :: l) = .int .i64 s.a :: .int .i64 s.b :: .int .i64 s.c :: .int .i64 s.d :: rawV l := rfl
    rw [e, show (k + 1) * 4 = k * 4 + 1 + 1 + 1 + 1 by omega, show k * 4 + 1 + 1 + 1 + 1 + 1 = (k * 4 + 1) + 1 + 1 + 1 + 1 by omega, show k * 4 + 1 + 1 + 1 + 1 + 2 = (k * 4 + 2) + 1 + 1 + 1 + 1 by omega, show k * 4 + 1 + 1 + 1 + 1 + 3 = (k * 4 + 3) + 1 + 1 + 1 + 1 by omega]
    simp only [List.getElem?_cons_succ]
    exact ih
theorem isS_bk {v : World} {p : Nat} {xs : List Raw} (h : BK v p (rawV xs)) (hq : ∀ s ∈ xs, Pc.Raw64 s) (hm : xs.length ≤ maxLen) : IsS v (some ⟨p, 0, none⟩) xs :=
  ⟨fun _ => ⟨p, 0, rfl, fun i hi => by
    rw [Nat.zero_add]
    have := rawV_at hi
    exact ⟨h.c _ this.1, h.c _ this.2.1, h.c _ this.2.2.1, h.c _ this.2.2.2⟩⟩, hq, hm⟩
theorem isS_acc {V : World} {B : Nat} {e : TypeId} {A : Option Addr} {cap n : Nat} {L : List (Rat × Rat)} {xs : List Raw} (h : V.ownsRow B e 4 (.slice A n cap) L.length (Pc.cells4 L)) (hn : n = L.length) (he : L.map Pc.raw = xs) (hf : ∀ r ∈ Pc.ends L, Pc.Fit r) (hm : L.length ≤ maxLen) : IsS V A xs := by
  subst hn he
  exact isS_row h rfl hf hm
theorem al_k0 : Pc.mkS [⟨2, 1, 5, 1⟩, ⟨0, 1, 1, 1⟩, ⟨1, 1, 2, 1⟩] = ([(0, 5)], 0) := by decide +kernel
theorem al_k2 : Pc.hasS [⟨0, 1, 5, 1⟩] 4 1 = (true, 0) := by decide +kernel
theorem al_k3 : Pc.hasS [⟨0, 1, 5, 1⟩] 5 1 = (false, 0) := by decide +kernel
theorem al_k4 : Pc.setS (fun x y => x && !y) [⟨0, 1, 5, 1⟩] [⟨1, 1, 2, 1⟩] = ([(0, 1), (2, 5)], 0) := by decide +kernel
theorem al_k5 : Pc.lenS [⟨0, 1, 1, 1⟩, ⟨2, 1, 5, 1⟩] = (4, 1, 0) := by decide +kernel
theorem al_k6 : Pc.cutS [⟨0, 1, 1, 1⟩, ⟨2, 1, 5, 1⟩] 3 1 = ([(0, 1), (2, 3)], [(3, 5)], 0) := by decide +kernel
theorem al_make (A : Option Addr) (c : Nat) (v : World) (hc : 3 ≤ c) (h : IsS v A [⟨2, 1, 5, 1⟩, ⟨0, 1, 1, 1⟩, ⟨1, 1, 2, 1⟩]) : Calls Try.prog 14 #[.slice A 3 c] v fun e w' => ∃ u, e = .returned (.tuple #[u, .int .i64 0]) ∧ Acc v v.heap.size 25 4 u 1 (Pc.cells4 [(0, 5)]) w' := by
  have := pMake_any A c [⟨2, 1, 5, 1⟩, ⟨0, 1, 1, 1⟩, ⟨1, 1, 2, 1⟩] v hc h
  rw [al_k0] at this
  exact this
theorem al_has4 (A : Option Addr) (c : Nat) (v : World) (h : IsS v A [⟨0, 1, 5, 1⟩]) : Calls Try.prog 15 #[.slice A 1 c, .agg #[.int .i64 4, .int .i64 1]] v fun e w' => e = .returned (.tuple #[.bool true, .int .i64 0]) ∧ Below v.heap.size v w' := by
  have := pHas_any A c [⟨0, 1, 5, 1⟩] 4 1 v ⟨by decide, by decide⟩ ⟨by decide, by decide⟩ h
  rw [al_k2] at this
  exact this
theorem al_has5 (A : Option Addr) (c : Nat) (v : World) (h : IsS v A [⟨0, 1, 5, 1⟩]) : Calls Try.prog 15 #[.slice A 1 c, .agg #[.int .i64 5, .int .i64 1]] v fun e w' => e = .returned (.tuple #[.bool false, .int .i64 0]) ∧ Below v.heap.size v w' := by
  have := pHas_any A c [⟨0, 1, 5, 1⟩] 5 1 v ⟨by decide, by decide⟩ ⟨by decide, by decide⟩ h
  rw [al_k3] at this
  exact this
theorem al_minus (A B : Option Addr) (c d : Nat) (v : World) (h : IsS v A [⟨0, 1, 5, 1⟩]) (k : IsS v B [⟨1, 1, 2, 1⟩]) : Calls Try.prog 11 #[.slice A 1 c, .slice B 1 d] v fun e w' => ∃ u, e = .returned (.tuple #[u, .int .i64 0]) ∧ Acc v v.heap.size 25 4 u 2 (Pc.cells4 [(0, 1), (2, 5)]) w' := by
  have := pMinus_any A B c d [⟨0, 1, 5, 1⟩] [⟨1, 1, 2, 1⟩] v h k
  rw [al_k4] at this
  exact this
theorem al_len (A : Option Addr) (c : Nat) (v : World) (h : IsS v A [⟨0, 1, 1, 1⟩, ⟨2, 1, 5, 1⟩]) : Calls Try.prog 17 #[.slice A 2 c] v fun e w' => e = .returned (.tuple #[.agg #[.int .i64 4, .int .i64 1], .int .i64 0]) ∧ Below v.heap.size v w' := by
  have := pLength_any A c [⟨0, 1, 1, 1⟩, ⟨2, 1, 5, 1⟩] v h
  rw [al_k5] at this
  exact this
theorem al_cut (A : Option Addr) (c : Nat) (v : World) (h : IsS v A [⟨0, 1, 1, 1⟩, ⟨2, 1, 5, 1⟩]) : Calls Try.prog 16 #[.slice A 2 c, .agg #[.int .i64 3, .int .i64 1]] v fun e w' => ∃ u1 u2, e = .returned (.tuple #[u1, u2, .int .i64 0]) ∧
    w'.ownsRow v.heap.size 25 4 u1 2 (Pc.cells4 [(0, 1), (2, 3)]) ∧ w'.ownsRow v.heap.size 25 4 u2 1 (Pc.cells4 [(3, 5)]) ∧ Below v.heap.size v w' := by
  have := pCut_any A c [⟨0, 1, 1, 1⟩, ⟨2, 1, 5, 1⟩] 3 1 v ⟨by decide, by decide⟩ ⟨by decide, by decide⟩ h
  rw [al_k6] at this
  exact this
set_option linter.unusedSimpArgs false in
set_option maxHeartbeats 16000000 in
set_option maxRecDepth 100000 in
theorem palive_any (w : World) : Calls Try.prog 19 #[] w fun e w' => e = .returned (.bool true) ∧ Below w.heap.size w w' := by
  go_enter Try.func19, Try.ntmps19
  have hbb := Below.refl w.heap.size w
  go_wp2_with fail
  refine (of_any 2 5 _).mono ?_
  rintro e w1 ⟨rfl, hb3⟩
  replace hbb := keepB hbb hb3
  clear hb3
  go_wp2_with fail
  refine (of_any 0 1 _).mono ?_
  rintro e w2 ⟨rfl, hb3⟩
  replace hbb := keepB hbb hb3
  clear hb3
  go_wp2_with fail
  refine (of_any 1 2 _).mono ?_
  rintro e w3 ⟨rfl, hb3⟩
  replace hbb := keepB hbb hb3
  clear hb3
  go_wp2_with fail
  refine at_worldR (fun v => Below w.heap.size w v ∧ BK v w3.heap.size [.int .i64 2, .int .i64 1, .int .i64 5, .int .i64 1, .int .i64 0, .int .i64 1, .int .i64 1, .int .i64 1, .int .i64 1, .int .i64 1, .int .i64 2, .int .i64 1]) ⟨below_al hbb _, BK.new w3 [.int .i64 2, .int .i64 1, .int .i64 5, .int .i64 1, .int .i64 0, .int .i64 1, .int .i64 1, .int .i64 1, .int .i64 1, .int .i64 1, .int .i64 2, .int .i64 1] _⟩ (fun V4 hS => ?_)
  clear hbb
  obtain ⟨hbb, B0⟩ := hS
  have H0 := isS_bk (xs := [⟨2, 1, 5, 1⟩, ⟨0, 1, 1, 1⟩, ⟨1, 1, 2, 1⟩]) B0 (by intro s hs; simp at hs; rcases hs with rfl | rfl | rfl <;> exact ⟨⟨⟨by decide, by decide⟩, by decide, by decide⟩, ⟨by decide, by decide⟩, by decide, by decide⟩) (by simp [maxLen])
  clear B0
  refine (al_make _ 3 _ (by decide) H0).mono ?_
  rintro e w5 ⟨v1, rfl, hv1⟩
  have hb3 := hv1.bb
  obtain ⟨A1, c1, rfl, -⟩ := row_cap hv1.row
  have I1 : IsS w5 A1 [⟨0, 1, 5, 1⟩] := isS_acc hv1.row rfl (by kernel_rfl) (fits_of (by decide +kernel)) (by simp [maxLen])
  clear hv1 H0
  replace hbb := keepB hbb hb3
  clear hb3
  skip
  go_wp2_with fail
  refine (of_any 4 5 _).mono ?_
  rintro e w6 ⟨rfl, hb3⟩
  replace I1 := I1.keep hb3
  replace hbb := keepB hbb hb3
  clear hb3
  have fl := fld0 4 1 5 1
  go_wp2_with fail
  clear fl
  refine (al_has4 A1 c1 _ I1).mono ?_
  rintro e w7 ⟨rfl, hb3⟩
  replace I1 := I1.keep hb3
  replace hbb := keepB hbb hb3
  clear hb3
  go_wp2_with fail
  refine (of_any 4 5 _).mono ?_
  rintro e w8 ⟨rfl, hb3⟩
  replace I1 := I1.keep hb3
  replace hbb := keepB hbb hb3
  clear hb3
  have fl := fld1 4 1 5 1
  go_wp2_with fail
  clear fl
  refine (al_has5 A1 c1 _ I1).mono ?_
  rintro e w9 ⟨rfl, hb3⟩
  replace I1 := I1.keep hb3
  replace hbb := keepB hbb hb3
  clear hb3
  go_wp2_with fail
  refine (of_any 1 2 _).mono ?_
  rintro e w10 ⟨rfl, hb3⟩
  replace I1 := I1.keep hb3
  replace hbb := keepB hbb hb3
  clear hb3
  go_wp2_with fail
  refine at_worldR (fun v => Below w.heap.size w v ∧ IsS v A1 [⟨0, 1, 5, 1⟩] ∧ BK v w10.heap.size [.int .i64 1, .int .i64 1, .int .i64 2, .int .i64 1]) ⟨below_al hbb _, I1.keep (below_al (Below.refl _ _) _), BK.new w10 [.int .i64 1, .int .i64 1, .int .i64 2, .int .i64 1] _⟩ (fun V11 hS => ?_)
  clear hbb I1
  obtain ⟨hbb, I1, B4⟩ := hS
  have H4 := isS_bk (xs := [⟨1, 1, 2, 1⟩]) B4 (by intro s hs; simp at hs; subst hs; exact ⟨⟨⟨by decide, by decide⟩, by decide, by decide⟩, ⟨by decide, by decide⟩, by decide, by decide⟩) (by simp [maxLen])
  clear B4
  refine (al_minus A1 _ c1 1 _ I1 H4).mono ?_
  rintro e w12 ⟨v7, rfl, hv7⟩
  have hb3 := hv7.bb
  obtain ⟨A7, c7, rfl, -⟩ := row_cap hv7.row
  have I7 : IsS w12 A7 [⟨0, 1, 1, 1⟩, ⟨2, 1, 5, 1⟩] := isS_acc hv7.row rfl (by kernel_rfl) (fits_of (by decide +kernel)) (by simp [maxLen])
  clear hv7 H4
  replace I1 := I1.keep hb3
  replace hbb := keepB hbb hb3
  clear hb3
  go_wp2_with fail
  refine (al_len A7 c7 _ I7).mono ?_
  rintro e w13 ⟨rfl, hb3⟩
  replace I1 := I1.keep hb3
  replace I7 := I7.keep hb3
  replace hbb := keepB hbb hb3
  clear hb3
  go_upto_region 6 with fail
  refine at_worldQ (fun v => Below w.heap.size w v ∧ IsS v A1 [⟨0, 1, 5, 1⟩] ∧ IsS v A7 [⟨0, 1, 1, 1⟩, ⟨2, 1, 5, 1⟩] ∧ BK v w13.heap.size [.int .i64 4, .int .i64 1]) ⟨below_al hbb _, I1.keep (below_al (Below.refl _ _) _), I7.keep (below_al (Below.refl _ _) _), BK.new w13 [.int .i64 4, .int .i64 1] _⟩ (fun V14 hS => ?_)
  clear hbb I1 I7
  obtain ⟨hbb, I1, I7, B9⟩ := hS
  go_wp2_with fail
  refine (of_any 3 4 _).mono ?_
  rintro e w15 ⟨rfl, hb3⟩
  replace I1 := I1.keep hb3
  replace I7 := I7.keep hb3
  replace B9 := B9.keep hb3
  replace hbb := keepB hbb hb3
  clear hb3
  have fl := fld0 3 1 4 1
  go_wp2_with fail
  clear fl
  refine (al_cut A7 c7 _ I7).mono ?_
  rintro e w16 ⟨v11, v12, rfl, r11, r12, hb3⟩
  obtain ⟨A11, c11, rfl, -⟩ := row_cap r11
  obtain ⟨A12, c12, rfl, -⟩ := row_cap r12
  have I11 : IsS w16 A11 [⟨0, 1, 1, 1⟩, ⟨2, 1, 3, 1⟩] := isS_acc r11 rfl (by kernel_rfl) (fits_of (by decide +kernel)) (by simp [maxLen])
  have I12 : IsS w16 A12 [⟨3, 1, 5, 1⟩] := isS_acc r12 rfl (by kernel_rfl) (fits_of (by decide +kernel)) (by simp [maxLen])
  clear r11 r12
  replace I1 := I1.keep hb3
  replace I7 := I7.keep hb3
  replace B9 := B9.keep hb3
  replace hbb := keepB hbb hb3
  clear hb3
  have e0 : ((0 : Int) == 0) = true := rfl
  go_wp2_with fail
  refine (of_any 0 5 _).mono ?_
  rintro e w17 ⟨rfl, hb3⟩
  replace I1 := I1.keep hb3
  replace I7 := I7.keep hb3
  replace B9 := B9.keep hb3
  replace I11 := I11.keep hb3
  replace I12 := I12.keep hb3
  replace hbb := keepB hbb hb3
  clear hb3
  go_wp2_with fail
  refine at_worldR (fun v => Below w.heap.size w v ∧ IsS v A1 [⟨0, 1, 5, 1⟩] ∧ IsS v A7 [⟨0, 1, 1, 1⟩, ⟨2, 1, 5, 1⟩] ∧ BK v w13.heap.size [.int .i64 4, .int .i64 1] ∧ IsS v A11 [⟨0, 1, 1, 1⟩, ⟨2, 1, 3, 1⟩] ∧ IsS v A12 [⟨3, 1, 5, 1⟩] ∧ BK v w17.heap.size [.int .i64 0, .int .i64 1, .int .i64 5, .int .i64 1]) ⟨below_al hbb _, I1.keep (below_al (Below.refl _ _) _), I7.keep (below_al (Below.refl _ _) _), B9.keep (below_al (Below.refl _ _) _), I11.keep (below_al (Below.refl _ _) _), I12.keep (below_al (Below.refl _ _) _), BK.new w17 [.int .i64 0, .int .i64 1, .int .i64 5, .int .i64 1] _⟩ (fun V18 hS => ?_)
  clear hbb I1 I7 B9 I11 I12
  obtain ⟨hbb, I1, I7, B9, I11, I12, Bx⟩ := hS
  have Hx := isS_bk (xs := [⟨0, 1, 5, 1⟩]) Bx (by intro s hs; simp at hs; subst hs; exact ⟨⟨⟨by decide, by decide⟩, by decide, by decide⟩, ⟨by decide, by decide⟩, by decide, by decide⟩) (by simp [maxLen])
  clear Bx
  refine (is_any A1 _ c1 _ [⟨0, 1, 5, 1⟩] _ I1 Hx).mono ?_
  rintro e w19 ⟨rfl, hb3⟩
  replace I1 := I1.keep hb3
  replace I7 := I7.keep hb3
  replace B9 := B9.keep hb3
  replace I11 := I11.keep hb3
  replace I12 := I12.keep hb3
  replace hbb := keepB hbb hb3
  clear hb3
  clear Hx
  clear I1
  go_wp2_with fail
  refine (of_any 0 1 _).mono ?_
  rintro e w20 ⟨rfl, hb3⟩
  replace I7 := I7.keep hb3
  replace B9 := B9.keep hb3
  replace I11 := I11.keep hb3
  replace I12 := I12.keep hb3
  replace hbb := keepB hbb hb3
  clear hb3
  go_wp2_with fail
  refine (of_any 2 5 _).mono ?_
  rintro e w21 ⟨rfl, hb3⟩
  replace I7 := I7.keep hb3
  replace B9 := B9.keep hb3
  replace I11 := I11.keep hb3
  replace I12 := I12.keep hb3
  replace hbb := keepB hbb hb3
  clear hb3
  go_wp2_with fail
  refine at_worldR (fun v => Below w.heap.size w v ∧ IsS v A7 [⟨0, 1, 1, 1⟩, ⟨2, 1, 5, 1⟩] ∧ BK v w13.heap.size [.int .i64 4, .int .i64 1] ∧ IsS v A11 [⟨0, 1, 1, 1⟩, ⟨2, 1, 3, 1⟩] ∧ IsS v A12 [⟨3, 1, 5, 1⟩] ∧ BK v w21.heap.size [.int .i64 0, .int .i64 1, .int .i64 1, .int .i64 1, .int .i64 2, .int .i64 1, .int .i64 5, .int .i64 1]) ⟨below_al hbb _, I7.keep (below_al (Below.refl _ _) _), B9.keep (below_al (Below.refl _ _) _), I11.keep (below_al (Below.refl _ _) _), I12.keep (below_al (Below.refl _ _) _), BK.new w21 [.int .i64 0, .int .i64 1, .int .i64 1, .int .i64 1, .int .i64 2, .int .i64 1, .int .i64 5, .int .i64 1] _⟩ (fun V22 hS => ?_)
  clear hbb I7 B9 I11 I12
  obtain ⟨hbb, I7, B9, I11, I12, Bx⟩ := hS
  have Hx := isS_bk (xs := [⟨0, 1, 1, 1⟩, ⟨2, 1, 5, 1⟩]) Bx (by intro s hs; simp at hs; rcases hs with rfl | rfl <;> exact ⟨⟨⟨by decide, by decide⟩, by decide, by decide⟩, ⟨by decide, by decide⟩, by decide, by decide⟩) (by simp [maxLen])
  clear Bx
  refine (is_any A7 _ c7 _ [⟨0, 1, 1, 1⟩, ⟨2, 1, 5, 1⟩] _ I7 Hx).mono ?_
  rintro e w23 ⟨rfl, hb3⟩
  replace I7 := I7.keep hb3
  replace B9 := B9.keep hb3
  replace I11 := I11.keep hb3
  replace I12 := I12.keep hb3
  replace hbb := keepB hbb hb3
  clear hb3
  clear Hx
  clear I7
  have q0 := B9.c 0 rfl
  have q1 := B9.c 1 rfl
  go_wp2_with fail
  refine (of_any 0 1 _).mono ?_
  rintro e w24 ⟨rfl, hb3⟩
  replace B9 := B9.keep hb3
  replace I11 := I11.keep hb3
  replace I12 := I12.keep hb3
  replace hbb := keepB hbb hb3
  clear hb3
  clear q0 q1
  go_wp2_with fail
  refine (of_any 2 3 _).mono ?_
  rintro e w25 ⟨rfl, hb3⟩
  replace B9 := B9.keep hb3
  replace I11 := I11.keep hb3
  replace I12 := I12.keep hb3
  replace hbb := keepB hbb hb3
  clear hb3
  go_wp2_with fail
  clear B9
  refine at_worldR (fun v => Below w.heap.size w v ∧ IsS v A11 [⟨0, 1, 1, 1⟩, ⟨2, 1, 3, 1⟩] ∧ IsS v A12 [⟨3, 1, 5, 1⟩] ∧ BK v w25.heap.size [.int .i64 0, .int .i64 1, .int .i64 1, .int .i64 1, .int .i64 2, .int .i64 1, .int .i64 3, .int .i64 1]) ⟨below_al hbb _, I11.keep (below_al (Below.refl _ _) _), I12.keep (below_al (Below.refl _ _) _), BK.new w25 [.int .i64 0, .int .i64 1, .int .i64 1, .int .i64 1, .int .i64 2, .int .i64 1, .int .i64 3, .int .i64 1] _⟩ (fun V26 hS => ?_)
  clear hbb I11 I12
  obtain ⟨hbb, I11, I12, Bx⟩ := hS
  have Hx := isS_bk (xs := [⟨0, 1, 1, 1⟩, ⟨2, 1, 3, 1⟩]) Bx (by intro s hs; simp at hs; rcases hs with rfl | rfl <;> exact ⟨⟨⟨by decide, by decide⟩, by decide, by decide⟩, ⟨by decide, by decide⟩, by decide, by decide⟩) (by simp [maxLen])
  clear Bx
  refine (is_any A11 _ c11 _ [⟨0, 1, 1, 1⟩, ⟨2, 1, 3, 1⟩] _ I11 Hx).mono ?_
  rintro e w27 ⟨rfl, hb3⟩
  replace I11 := I11.keep hb3
  replace I12 := I12.keep hb3
  replace hbb := keepB hbb hb3
  clear hb3
  clear Hx I11
  go_wp2_with fail
  refine (of_any 3 5 _).mono ?_
  rintro e w28 ⟨rfl, hb3⟩
  replace I12 := I12.keep hb3
  replace hbb := keepB hbb hb3
  clear hb3
  go_wp2_with fail
  refine at_worldR (fun v => Below w.heap.size w v ∧ IsS v A12 [⟨3, 1, 5, 1⟩] ∧ BK v w28.heap.size [.int .i64 3, .int .i64 1, .int .i64 5, .int .i64 1]) ⟨below_al hbb _, I12.keep (below_al (Below.refl _ _) _), BK.new w28 [.int .i64 3, .int .i64 1, .int .i64 5, .int .i64 1] _⟩ (fun V29 hS => ?_)
  clear hbb I12
  obtain ⟨hbb, I12, Bx⟩ := hS
  have Hx := isS_bk (xs := [⟨3, 1, 5, 1⟩]) Bx (by intro s hs; simp at hs; subst hs; exact ⟨⟨⟨by decide, by decide⟩, by decide, by decide⟩, ⟨by decide, by decide⟩, by decide, by decide⟩) (by simp [maxLen])
  clear Bx
  refine (is_any A12 _ c12 _ [⟨3, 1, 5, 1⟩] _ I12 Hx).mono ?_
  rintro e w30 ⟨rfl, hb3⟩
  replace I12 := I12.keep hb3
  replace hbb := keepB hbb hb3
  clear hb3
  clear Hx
  clear I12
  go_wp2_with fail
  go_ret
  exact ⟨rfl, hbb⟩
end Go.Proofs.Ytnnpmegknlgkoaa
