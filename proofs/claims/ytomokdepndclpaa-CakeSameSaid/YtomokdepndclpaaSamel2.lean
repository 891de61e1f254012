/- The law CakeSame: the marks of any value, and the values, of a cake and of its normal cake. -/
import Derived.Test.YtomokdepndclpaaSamel
namespace Go.Proofs.Ytomokdepndclpaa
open Go.RowKit
set_option maxHeartbeats 4000000 in
set_option maxRecDepth 100000 in
theorem mark_no2 (len : Int) (K : Option Addr) (cuts : List Int) (ck : Nat) (Z : Option Addr) (dens : List Int) (cz : Nat) (n1 d1 v1 v2 : Int) (w : World) (h : IsCake w len K cuts Z dens) (hc : Ck.chk len cuts dens = 0) (hn1 : I64 n1) (hd1 : I64 d1) (hv1 : I64 v1) (hv2 : I64 v2) (hp : Ck.pt len n1 d1 = true) (oV : ¬ Rp.Ok v1 v2) :
    Calls Try.prog 22 #[.agg #[.int .i64 len, .slice K cuts.length ck, .slice Z dens.length cz], .agg #[.int .i64 n1, .int .i64 d1], .agg #[.int .i64 v1, .int .i64 v2]] w fun e w' => e = .returned (.tuple #[.agg #[.int .i64 0, .int .i64 0], .int .i64 2]) ∧ Below w.heap.size w w' := by
  have hG := Ck.chk_good hc
  have cc := fun v (hb : Below w.heap.size w v) => ckCheck_any len K cuts ck Z dens cz v (h.keep hb)
  rw [hc] at cc
  have n0 : (((0 : Int)) != 0) = false := rfl
  have cv := fun w => check_any v1 v2 w hv1.1 hv1.2 hv2.1 hv2.2
  rw [show Rp.chk v1 v2 = 8 from if_neg oV] at cv
  have CV := Lib.hid cv
  clear cv
  have e1 : (((8 : Int)) != 0) = true := rfl
  have cp := fun v => ispoint_any len K cuts.length ck Z dens.length cz n1 d1 v hG.len0 hG.len1 hn1 hd1
  rw [hp] at cp
  have CP := Lib.hid cp
  clear cp
  have CC := Lib.hid cc
  clear cc hc hG h
  go_enter Try.func22, Try.ntmps22
  go_wp2_with fail
  refine (CC.out _ ((((((Below.refl _ _).alloc (Nat.le_refl _) _).alloc (by simp) _).alloc (by simp; omega) _).alloc (by simp; omega) _).alloc (by simp; omega) _)).mono ?_
  rintro e w1 ⟨rfl, hb⟩
  have hbb : Below w.heap.size w w1 := keepB ((((((Below.refl _ _).alloc (Nat.le_refl _) _).alloc (by simp) _).alloc (by simp; omega) _).alloc (by simp; omega) _).alloc (by simp; omega) _) hb
  have B3 : BK w1 (w.heap.size) [.int .i64 len, .slice K cuts.length ck, .slice Z dens.length cz] := BK.keep (v := _) ⟨by simp <;> omega, fun j x e => by
    match j with
    | 0 => injection e with e; subst e; exact ⟨by go_simp, by go_simp⟩
    | 1 => injection e with e; subst e; exact ⟨by go_simp, by go_simp⟩
    | 2 => injection e with e; subst e; exact ⟨by go_simp, by go_simp⟩
    | j + 3 => cases e⟩ hb
  have B4 : BK w1 (w.heap.size + 1) [.int .i64 n1, .int .i64 d1] := BK.keep (v := _) ⟨by simp <;> omega, fun j x e => by
    match j with
    | 0 => injection e with e; subst e; exact ⟨by go_simp, by go_simp⟩
    | 1 => injection e with e; subst e; exact ⟨by go_simp, by go_simp⟩
    | j + 2 => cases e⟩ hb
  have B5 : BK w1 (w.heap.size + 1 + 1) [.int .i64 v1, .int .i64 v2] := BK.keep (v := _) ⟨by simp <;> omega, fun j x e => by
    match j with
    | 0 => injection e with e; subst e; exact ⟨by go_simp, by go_simp⟩
    | 1 => injection e with e; subst e; exact ⟨by go_simp, by go_simp⟩
    | j + 2 => cases e⟩ hb
  have B6 : BK w1 (w.heap.size + 1 + 1 + 1) [.int .i64 0, .int .i64 0] := BK.keep (v := _) ⟨by simp <;> omega, fun j x e => by
    match j with
    | 0 => injection e with e; subst e; exact ⟨by go_simp, by go_simp⟩
    | 1 => injection e with e; subst e; exact ⟨by go_simp, by go_simp⟩
    | j + 2 => cases e⟩ hb
  have B7 : BK w1 (w.heap.size + 1 + 1 + 1 + 1) [.int .i64 0] := BK.keep (v := _) ⟨by simp <;> omega, fun j x e => by
    match j with
    | 0 => injection e with e; subst e; exact ⟨by go_simp, by go_simp⟩
    | j + 1 => cases e⟩ hb
  clear hb
  have b30 := B3.c 0 rfl
  have b31 := B3.c 1 rfl
  have b32 := B3.c 2 rfl
  have b40 := B4.c 0 rfl
  have b41 := B4.c 1 rfl
  go_wp2_with fail
  refine (CP.out _).mono ?_
  rintro e w2 ⟨rfl, hb⟩
  clear b30 b31 b32 b40 b41
  replace B3 := B3.keep hb
  replace B4 := B4.keep hb
  replace B5 := B5.keep hb
  replace B6 := B6.keep hb
  replace B7 := B7.keep hb
  replace hbb := keepB hbb hb
  clear hb
  have b50 := B5.c 0 rfl
  have b51 := B5.c 1 rfl
  go_wp2_with fail
  refine (CV.out _).mono ?_
  rintro e w3 ⟨rfl, hb⟩
  clear b50 b51
  replace B3 := B3.keep hb
  replace B4 := B4.keep hb
  replace B5 := B5.keep hb
  replace B6 := B6.keep hb
  replace B7 := B7.keep hb
  replace hbb := keepB hbb hb
  clear hb
  have b60 := B6.c 0 rfl
  have b61 := B6.c 1 rfl
  have f60 := B6.f 0 rfl
  have f61 := B6.f 1 rfl
  have b70 := B7.c 0 rfl
  have f70 := B7.f 0 rfl
  go_wp2_with fail
  exact bodyPost_ret (v := .tuple #[.agg #[.int .i64 0, .int .i64 0], .int .i64 2]) (by simp [results, Try.results22, go_sem, b60, b61, b70]) rfl ⟨rfl, below_set (below_set (below_set hbb (by omega) _) (by omega) _) (by omega) _⟩

section
variable {len : Int} {K : Option Addr} {cuts : List Int} {Z : Option Addr} {dens : List Int} {n1 d1 n2 d2 v1 v2 : Int} {w : World}
/-- What a mark of any value is. -/
def Mk (len : Int) (c d : List Int) (n1 d1 v1 v2 P1 P2 P3 : Int) : Prop :=
  ((Rp.Ok v1 v2 ∧ 0 ≤ v1) ∧ Ck.IsMark len c d (Rp.q n1 d1) (Rp.q v1 v2) (P1, P2, P3) ∧ (P3 = 0 ∨ (P1 = 0 ∧ P2 = 0 ∧ P3 = 6) ∨ (P1 = 0 ∧ P2 = 0 ∧ P3 = 16))) ∨ (¬ (Rp.Ok v1 v2 ∧ 0 ≤ v1) ∧ P1 = 0 ∧ P2 = 0 ∧ P3 = 2)
theorem mrk_all (len : Int) (cuts dens : List Int) (n1 d1 v1 v2 : Int) (hc : Ck.chk len cuts dens = 0) (pa : Ck.pt len n1 d1 = true) (hv1 : I64 v1) (hv2 : I64 v2) :
    ∃ P1 P2 P3, Mk len cuts dens n1 d1 v1 v2 P1 P2 P3 ∧ ∀ (K : Option Addr) (ck : Nat) (Z : Option Addr) (cz : Nat) (v : World), IsCake v len K cuts Z dens → Calls Try.prog 22 #[.agg #[.int .i64 len, .slice K cuts.length ck, .slice Z dens.length cz], .agg #[.int .i64 n1, .int .i64 d1], .agg #[.int .i64 v1, .int .i64 v2]] v fun e w' => e = .returned (.tuple #[.agg #[.int .i64 P1, .int .i64 P2], .int .i64 P3]) ∧ Below v.heap.size v w' := by
  by_cases g : Rp.Ok v1 v2 ∧ 0 ≤ v1
  · have hG := Ck.chk_good hc
    obtain ⟨oa, na, _⟩ := pt_spec pa
    have hm := Ck.mrk_is hG oa (pt_le hG.len0 hG.len1 pa) g.1 g.2
    obtain ⟨⟨P1, P2, P3⟩, hP⟩ : ∃ t, Ck.mrk len cuts dens n1 d1 v1 v2 = t := ⟨_, rfl⟩
    rw [hP] at hm
    refine ⟨P1, P2, P3, .inl ⟨g, hm, ?_⟩, fun K ck Z cz v h => ?_⟩
    · rcases hm with ⟨e, _⟩ | ⟨e, _⟩ | e
      · exact .inl e
      · simp only [Prod.mk.injEq] at e
        exact .inr (.inl e)
      · simp only [Prod.mk.injEq] at e
        exact .inr (.inr e)
    · have := mark_any (ck := ck) (cz := cz) v h hc pa g.1 g.2
      rw [hP] at this
      exact this
  · refine ⟨0, 0, 2, .inr ⟨g, rfl, rfl, rfl⟩, fun K ck Z cz v h => ?_⟩
    obtain ⟨oa, _, _⟩ := pt_spec pa
    have i1 : I64 n1 := ⟨by have := oa.2.2.1; omega, by have := oa.2.2.2.1; omega⟩
    have i2 : I64 d1 := ⟨by have := oa.1; omega, by have := oa.2.1; omega⟩
    by_cases o : Rp.Ok v1 v2
    · exact mark_no3 len K cuts ck Z dens cz n1 d1 v1 v2 v h hc i1 i2 hv1 hv2 pa o (by
        have : ¬ 0 ≤ v1 := fun e => g ⟨o, e⟩
        omega)
    · exact mark_no2 len K cuts ck Z dens cz n1 d1 v1 v2 v h hc i1 i2 hv1 hv2 pa o
/-- Both marks together. -/
def Two (P1 P2 P3 Q1 Q2 Q3 : Int) : Prop :=
  (P3 = 0 ∧ Q3 = 0 ∧ P1 = Q1 ∧ P2 = Q2) ∨ (P3 = 0 ∧ Q1 = 0 ∧ Q2 = 0 ∧ Q3 = 16) ∨ (P1 = 0 ∧ P2 = 0 ∧ P3 = 16 ∧ Q3 = 0) ∨ (P1 = 0 ∧ P2 = 0 ∧ P3 = 16 ∧ Q1 = 0 ∧ Q2 = 0 ∧ Q3 = 16) ∨
  (P1 = 0 ∧ P2 = 0 ∧ P3 = 6 ∧ Q1 = 0 ∧ Q2 = 0 ∧ Q3 = 6) ∨ (P1 = 0 ∧ P2 = 0 ∧ P3 = 6 ∧ Q1 = 0 ∧ Q2 = 0 ∧ Q3 = 16) ∨ (P1 = 0 ∧ P2 = 0 ∧ P3 = 16 ∧ Q1 = 0 ∧ Q2 = 0 ∧ Q3 = 6) ∨ (P1 = 0 ∧ P2 = 0 ∧ P3 = 2 ∧ Q1 = 0 ∧ Q2 = 0 ∧ Q3 = 2)
theorem two_of {c' d' : List Int} {P1 P2 P3 Q1 Q2 Q3 : Int} (hG : Ck.Good len cuts dens) (hcum : ∀ x, Ck.cum c' d' x d'.length = Ck.cum cuts dens x dens.length) (h : Mk len cuts dens n1 d1 v1 v2 P1 P2 P3) (h' : Mk len c' d' n1 d1 v1 v2 Q1 Q2 Q3) : Two P1 P2 P3 Q1 Q2 Q3 := by
  rcases h with ⟨g, m, e⟩ | ⟨g, e1, e2, e3⟩
  · rcases h' with ⟨_, m', e'⟩ | ⟨g', _⟩
    · have hb := Ck.mark_both hG hcum m m'
      dsimp only at hb
      rcases e with rfl | ⟨rfl, rfl, rfl⟩ | ⟨rfl, rfl, rfl⟩
      · rcases e' with rfl | ⟨rfl, rfl, rfl⟩ | ⟨rfl, rfl, rfl⟩
        · have := Ck.mark_uniq hcum m m' rfl rfl
          exact .inl ⟨rfl, rfl, this.1, this.2⟩
        · exact absurd ((hb (by decide) (by decide)).2 rfl) (by decide)
        · exact .inr (.inl ⟨rfl, rfl, rfl, rfl⟩)
      · rcases e' with rfl | ⟨rfl, rfl, rfl⟩ | ⟨rfl, rfl, rfl⟩
        · exact absurd ((hb (by decide) (by decide)).1 rfl) (by decide)
        · exact .inr (.inr (.inr (.inr (.inl ⟨rfl, rfl, rfl, rfl, rfl, rfl⟩))))
        · exact .inr (.inr (.inr (.inr (.inr (.inl ⟨rfl, rfl, rfl, rfl, rfl, rfl⟩)))))
      · rcases e' with rfl | ⟨rfl, rfl, rfl⟩ | ⟨rfl, rfl, rfl⟩
        · exact .inr (.inr (.inl ⟨rfl, rfl, rfl, rfl⟩))
        · exact .inr (.inr (.inr (.inr (.inr (.inr (.inl ⟨rfl, rfl, rfl, rfl, rfl, rfl⟩))))))
        · exact .inr (.inr (.inr (.inl ⟨rfl, rfl, rfl, rfl, rfl, rfl⟩)))
    · exact absurd g g'
  · rcases h' with ⟨g', _⟩ | ⟨_, e1', e2', e3'⟩
    · exact absurd g' g
    · exact .inr (.inr (.inr (.inr (.inr (.inr (.inr ⟨e1, e2, e3, e1', e2', e3'⟩))))))
theorem nor_cum (hG : Ck.Good len cuts dens) (x : Rat) : Ck.cum (Ck.nC cuts dens dens.length ++ [len]) (Ck.nD dens dens.length) x (Ck.nD dens dens.length).length = Ck.cum cuts dens x dens.length := by
  have := Ck.cum_nor hG x dens.length (Nat.le_refl _)
  rw [hG.last] at this
  exact this
/-- Both values together. -/
def TwoV (X1 X2 X3 Y1 Y2 Y3 : Int) : Prop :=
  (X3 = 0 ∧ Y3 = 0 ∧ X1 = Y1 ∧ X2 = Y2) ∨ (X3 = 0 ∧ Y1 = 0 ∧ Y2 = 0 ∧ Y3 = 16) ∨ (X1 = 0 ∧ X2 = 0 ∧ X3 = 16 ∧ Y3 = 0) ∨ (X1 = 0 ∧ X2 = 0 ∧ X3 = 16 ∧ Y1 = 0 ∧ Y2 = 0 ∧ Y3 = 16)
theorem val_all (len : Int) (cuts dens : List Int) (n1 d1 n2 d2 : Int) (hc : Ck.chk len cuts dens = 0) (pa : Ck.pt len n1 d1 = true) (pb : Ck.pt len n2 d2 = true) (hle : ¬ Rp.q n2 d2 < Rp.q n1 d1) :
    ∃ X1 X2 X3, Ck.vgo cuts dens n1 d1 n2 d2 dens.length = (X1, X2, X3) ∧ (X3 = 0 ∨ (X1 = 0 ∧ X2 = 0 ∧ X3 = 16)) ∧ ∀ (K : Option Addr) (ck : Nat) (Z : Option Addr) (cz : Nat) (v : World), IsCake v len K cuts Z dens →
      Calls Try.prog 21 #[.agg #[.int .i64 len, .slice K cuts.length ck, .slice Z dens.length cz], .agg #[.int .i64 n1, .int .i64 d1], .agg #[.int .i64 n2, .int .i64 d2]] v fun e w' => e = .returned (.tuple #[.agg #[.int .i64 X1, .int .i64 X2], .int .i64 X3]) ∧ Below v.heap.size v w' := by
  have hG := Ck.chk_good hc
  obtain ⟨⟨X1, X2, X3⟩, hX⟩ : ∃ t, Ck.vgo cuts dens n1 d1 n2 d2 dens.length = t := ⟨_, rfl⟩
  have e := Ck.vgo_err hG (pt_spec pa).1 (pt_spec pb).1 (Rat.not_lt.1 hle)
  rw [hX] at e
  refine ⟨X1, X2, X3, hX, ?_, fun K ck Z cz v h => ?_⟩
  · rcases e with e | e
    · exact .inl e
    · simp only [Prod.mk.injEq] at e
      exact .inr e
  · have := value_good len K cuts ck Z dens cz n1 d1 n2 d2 v h hc pa pb hle
    rw [hX] at this
    exact this
end
end Go.Proofs.Ytomokdepndclpaa
