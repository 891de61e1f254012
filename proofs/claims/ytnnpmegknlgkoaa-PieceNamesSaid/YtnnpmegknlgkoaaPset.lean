/- Package piece's set operations. -/
import Derived.Test.YtnnpmegknlgkoaaPsweep
import Derived.Test.YtnnpmegknlgkoaaPck
import Derived.Test.YtnnpmegknlgkoaaPends
namespace Go.Proofs.Ytnnpmegknlgkoaa
open Go.RowKit
namespace Pc
/-- A set operation's piece and error. -/
def setS (f : Bool → Bool → Bool) (xs ys : List Raw) : List (Rat × Rat) × Int :=
  if chk xs = 0 then (if chk ys = 0 then ofE (swp f (ends (xs.map toQ)) (ends (ys.map toQ)) false false false) else ([], chk ys)) else ([], chk xs)
theorem setS_first {f : Bool → Bool → Bool} {xs ys : List Raw} (h : chk xs ≠ 0) : setS f xs ys = ([], chk xs) := by unfold setS; rw [if_neg h]
theorem setS_second {f : Bool → Bool → Bool} {xs ys : List Raw} (h : chk xs = 0) (k : chk ys ≠ 0) : setS f xs ys = ([], chk ys) := by unfold setS; rw [if_pos h, if_neg k]
theorem map_toQ_raw (L : List (Rat × Rat)) : (L.map raw).map toQ = L := by
  rw [List.map_map]
  have : (toQ ∘ raw) = id := by
    funext s
    show toQ (raw s) = s
    unfold toQ raw
    simp only [Rp.q_self]
  rw [this, List.map_id]
theorem setS_both {f : Bool → Bool → Bool} {La Lb : List (Rat × Rat)} (h : chk (La.map raw) = 0) (k : chk (Lb.map raw) = 0) : setS f (La.map raw) (Lb.map raw) = ofE (swp f (ends La) (ends Lb) false false false) := by
  unfold setS
  rw [if_pos h, if_pos k, map_toQ_raw, map_toQ_raw]
theorem chg_sub {t : Rat → Bool} : ∀ {l : List Rat} {k : Bool} {r : Rat}, r ∈ chg t l k → r ∈ l
  | [], _, _, h => by simp [chg] at h
  | p :: l, k, r, h => by
    unfold chg at h
    split at h
    · exact List.mem_cons_of_mem _ (chg_sub h)
    · rcases List.mem_cons.1 h with rfl | h
      · simp
      · exact List.mem_cons_of_mem _ (chg_sub h)
theorem chg_len {t : Rat → Bool} : ∀ {l : List Rat} {k : Bool}, (chg t l k).length ≤ l.length
  | [], _ => Nat.le_refl _
  | p :: l, k => by
    unfold chg
    split
    · have := chg_len (t := t) (l := l) (k := k); simp; omega
    · have := chg_len (t := t) (l := l) (k := t p); simp; omega
theorem mrg_len : ∀ (n : Nat) (a b : List Rat), a.length + b.length ≤ n → (mrg a b).length ≤ a.length + b.length := by
  intro n
  induction n with
  | zero => intro a b h; have ha : a = [] := List.eq_nil_of_length_eq_zero (by omega); have hb : b = [] := List.eq_nil_of_length_eq_zero (by omega); subst ha hb; unfold mrg; simp
  | succ n ih =>
    intro a b h
    by_cases k : a = [] ∧ b = []
    · obtain ⟨rfl, rfl⟩ := k; unfold mrg; simp
    · unfold mrg; rw [dif_neg k]
      have hh := near_hit a b k
      have h1 := off_len (near a b) a
      have h2 := off_len (near a b) b
      have hl : (off (near a b) a).length + (off (near a b) b).length + 1 ≤ a.length + b.length := by
        rcases hh with k | k
        · have := off_lt _ _ k; omega
        · have := off_lt _ _ k; omega
      have := ih (off (near a b) a) (off (near a b) b) (by omega)
      rw [List.length_cons]
      omega
theorem swp_fit (f : Bool → Bool → Bool) {La Lb : List (Rat × Rat)} (gA : Good La) (gB : Good Lb) : (∀ r ∈ swp f (ends La) (ends Lb) false false false, Fit r) ∧ (swp f (ends La) (ends Lb) false false false).length ≤ 240 := by
  rw [swp_chg f _ _ _ (Nat.le_refl _) gA.inc gB.inc]
  have l1 := ends_len La
  have l2 := ends_len Lb
  have g1 := gA.len
  have g2 := gB.len
  refine ⟨fun r hr => ?_, ?_⟩
  · have := (mem_mrg _ _ _ (Nat.le_refl _) r).1 (chg_sub hr)
    exact this.elim (gA.fit r) (gB.fit r)
  · refine Nat.le_trans chg_len (Nat.le_trans (mrg_len _ _ _ (Nat.le_refl _)) ?_)
    omega
end Pc
theorem row_cap {w : World} {B : Nat} {e : TypeId} {sz n : Nat} {v : Value} {cs : List Value} (h : w.ownsRow B e sz v n cs) : ∃ A cap, v = .slice A n cap ∧ n ≤ cap := by
  rcases h.2 with ⟨h1, h2⟩ | ⟨g, cap, cur, h1, _, _, h4, _⟩
  · exact ⟨none, 0, by rw [h1, h2], by omega⟩
  · exact ⟨_, _, h1, h4⟩
theorem Acc.rebase0 {w V W : World} {e : TypeId} {sz n : Nat} {v : Value} {cs : List Value} (hb : Below w.heap.size w V) (h : Acc V V.heap.size e sz v n cs W) : Acc w w.heap.size e sz v n cs W :=
  ⟨hb.trans (h.bb.mono hb.size), Nat.le_trans hb.size h.hB, World.ownsRow.mono h.row hb.size⟩
set_option linter.unusedSimpArgs false in
set_option maxHeartbeats 8000000 in
set_option maxRecDepth 100000 in
theorem combine_any (g : FuncId) (f : Bool → Bool → Bool) (hK : ∀ x y v, Calls Try.prog g #[.bool x, .bool y] v fun e w' => e = .returned (.bool (f x y)) ∧ Below v.heap.size v w') (hE : ∀ (x y : Bool) (v : World), Sem.run Try.prog (callFunc g #[.bool x, .bool y]) v = .ok (.enter g #[.bool x, .bool y]) v)
    (A B : Option Addr) (ca cb : Nat) (xs ys : List Raw) (w : World) (ha : IsS w A xs) (hb : IsS w B ys) :
    Calls Try.prog 44 #[.slice A xs.length ca, .slice B ys.length cb, .func (.func g) #[] #[]] w fun e w' => ∃ v, e = .returned (.tuple #[v, .int .i64 (Pc.setS f xs ys).2]) ∧ Acc w w.heap.size 25 4 v (Pc.setS f xs ys).1.length (Pc.cells4 (Pc.setS f xs ys).1) w' := by
  have ck := fun v (hv : Below w.heap.size w v) => pChk_any A ca xs v (ha.keep hv)
  have dk := fun v (hv : Below w.heap.size w v) => pChk_any B cb ys v (hb.keep hv)
  by_cases hx : Pc.chk xs = 0
  · by_cases hy : Pc.chk ys = 0
    · obtain ⟨La, rfl, gA⟩ := Pc.chk_good hx
      obtain ⟨Lb, rfl, gB⟩ := Pc.chk_good hy
      have hs := Pc.swp_fit f gA gB
      rw [Pc.setS_both hx hy]
      rw [hx] at ck
      rw [hy] at dk
      rw [List.length_map] at ck dk ⊢
      rw [List.length_map]
      have CK := Lib.hid ck
      have DK := Lib.hid dk
      have EA := Lib.hid (fun v (hv : Below w.heap.size w v) => endsOf_any A ca La v gA.len (ha.keep hv))
      have EB := Lib.hid (fun v (hv : Below w.heap.size w v) => endsOf_any B cb Lb v gB.len (hb.keep hv))
      have SW := Lib.hid (fun A' B' ca' cb' v h1 h2 h3 h4 => sweep_any A' B' ca' cb' (Pc.ends La) (Pc.ends Lb) g f v hK hE h1 h2 gA.fit gB.fit (by have := Pc.ends_len La; have := Pc.ends_len Lb; have := gA.len; have := gB.len; omega) h3 h4)
      have PO := Lib.hid (fun A' ca' v h1 => pieceOf_any A' ca' (Pc.swp f (Pc.ends La) (Pc.ends Lb) false false false) v (by have := hs.2; omega) hs.1 h1)
      generalize Pc.swp f (Pc.ends La) (Pc.ends Lb) false false false = S at *
      generalize Pc.ofE S = R at *
      clear ck dk hx hy ha hb gA gB hs hK hE
      go_enter Try.func44, Try.ntmps44
      go_wp2_with fail
      refine (CK.out _ (Below.refl _ _)).mono ?_
      rintro e w1 ⟨rfl, hb1⟩
      go_wp2_with fail
      refine (DK.out _ hb1).mono ?_
      rintro e w2 ⟨rfl, hb2⟩
      replace hb2 := keepB hb1 hb2
      clear hb1
      go_wp2_with fail
      refine (EA.out _ hb2).mono ?_
      rintro e w3 ⟨v3, rfl, hv3⟩
      obtain ⟨A3, c3, rfl, hc3⟩ := row_cap hv3.row
      have hb3 := keepB hb2 hv3.bb
      have q3 := isQ_row hv3.row rfl
      clear hv3 hb2
      go_wp2_with fail
      refine (EB.out _ hb3).mono ?_
      rintro e w4 ⟨v4, rfl, hv4⟩
      obtain ⟨A4, c4, rfl, hc4⟩ := row_cap hv4.row
      have hb4 := keepB hb3 hv4.bb
      replace q3 := q3.keep hv4.bb
      have q4 := isQ_row hv4.row rfl
      clear hv4 hb3
      go_wp2_with fail
      refine (SW.out _ _ _ _ _ q3 q4 hc3 hc4).mono ?_
      rintro e w5 ⟨v5, rfl, hv5⟩
      obtain ⟨A5, c5, rfl, hc5⟩ := row_cap hv5.row
      have hb5 := keepB hb4 hv5.bb
      have q5 := isQ_row hv5.row rfl
      clear hv5 hb4 q3 q4
      go_wp2_with fail
      refine (PO.out _ _ _ q5).mono ?_
      rintro e w6 ⟨v6, rfl, hv6⟩
      have hr := Acc.rebase0 hb5 hv6
      clear hv6 q5
      go_wp2_with fail
      go_ret2
      exact ⟨_, rfl, hr⟩
    · rw [Pc.setS_second hx hy]
      rw [hx] at ck
      have n1 : (Pc.chk ys != 0) = true := by rw [bne_iff_ne]; exact hy
      generalize Pc.chk ys = c at *
      have CK := Lib.hid ck
      have DK := Lib.hid dk
      clear ck dk hx hy ha hb hK hE
      go_enter Try.func44, Try.ntmps44
      go_wp2_with fail
      refine (CK.out _ (Below.refl _ _)).mono ?_
      rintro e w1 ⟨rfl, hb1⟩
      go_wp2_with fail
      refine (DK.out _ hb1).mono ?_
      rintro e w2 ⟨rfl, hb2⟩
      replace hb2 := keepB hb1 hb2
      go_wp2_with fail
      go_ret2
      exact ⟨_, rfl, hb2, hb2.size, World.ownsRow_nil _ _ _ _⟩
  · rw [Pc.setS_first hx]
    have n1 : (Pc.chk xs != 0) = true := by rw [bne_iff_ne]; exact hx
    generalize Pc.chk xs = c at *
    have CK := Lib.hid ck
    clear ck dk hx ha hb hK hE
    go_enter Try.func44, Try.ntmps44
    go_wp2_with fail
    refine (CK.out _ (Below.refl _ _)).mono ?_
    rintro e w1 ⟨rfl, hb1⟩
    go_wp2_with fail
    go_ret2
    exact ⟨_, rfl, hb1, hb1.size, World.ownsRow_nil _ _ _ _⟩
set_option maxHeartbeats 1000000 in
theorem pUnion_any (A B : Option Addr) (ca cb : Nat) (xs ys : List Raw) (w : World) (ha : IsS w A xs) (hb : IsS w B ys) :
    Calls Try.prog 9 #[.slice A xs.length ca, .slice B ys.length cb] w fun e w' => ∃ v, e = .returned (.tuple #[v, .int .i64 (Pc.setS (fun x y => x || y) xs ys).2]) ∧ Acc w w.heap.size 25 4 v (Pc.setS (fun x y => x || y) xs ys).1.length (Pc.cells4 (Pc.setS (fun x y => x || y) xs ys).1) w' := by
  have C := Lib.hid (combine_any 45 (fun x y => x || y) peither_any (fun x y v => by go_simp) A B ca cb xs ys w ha hb)
  generalize Pc.setS (fun x y => x || y) xs ys = R at *
  clear ha hb
  go_enter Try.func9, Try.ntmps9
  go_wp2_with fail
  refine C.out.mono ?_
  rintro e w1 ⟨v, rfl, hv⟩
  go_wp2_with fail
  go_ret2
  exact ⟨_, rfl, hv⟩
set_option maxHeartbeats 1000000 in
theorem pMeet_any (A B : Option Addr) (ca cb : Nat) (xs ys : List Raw) (w : World) (ha : IsS w A xs) (hb : IsS w B ys) :
    Calls Try.prog 10 #[.slice A xs.length ca, .slice B ys.length cb] w fun e w' => ∃ v, e = .returned (.tuple #[v, .int .i64 (Pc.setS (fun x y => x && y) xs ys).2]) ∧ Acc w w.heap.size 25 4 v (Pc.setS (fun x y => x && y) xs ys).1.length (Pc.cells4 (Pc.setS (fun x y => x && y) xs ys).1) w' := by
  have C := Lib.hid (combine_any 46 (fun x y => x && y) pboth_any (fun x y v => by go_simp) A B ca cb xs ys w ha hb)
  generalize Pc.setS (fun x y => x && y) xs ys = R at *
  clear ha hb
  go_enter Try.func10, Try.ntmps10
  go_wp2_with fail
  refine C.out.mono ?_
  rintro e w1 ⟨v, rfl, hv⟩
  go_wp2_with fail
  go_ret2
  exact ⟨_, rfl, hv⟩
set_option maxHeartbeats 1000000 in
theorem pMinus_any (A B : Option Addr) (ca cb : Nat) (xs ys : List Raw) (w : World) (ha : IsS w A xs) (hb : IsS w B ys) :
    Calls Try.prog 11 #[.slice A xs.length ca, .slice B ys.length cb] w fun e w' => ∃ v, e = .returned (.tuple #[v, .int .i64 (Pc.setS (fun x y => x && !y) xs ys).2]) ∧ Acc w w.heap.size 25 4 v (Pc.setS (fun x y => x && !y) xs ys).1.length (Pc.cells4 (Pc.setS (fun x y => x && !y) xs ys).1) w' := by
  have C := Lib.hid (combine_any 47 (fun x y => x && !y) ponlyFirst_any (fun x y v => by go_simp) A B ca cb xs ys w ha hb)
  generalize Pc.setS (fun x y => x && !y) xs ys = R at *
  clear ha hb
  go_enter Try.func11, Try.ntmps11
  go_wp2_with fail
  refine C.out.mono ?_
  rintro e w1 ⟨v, rfl, hv⟩
  go_wp2_with fail
  go_ret2
  exact ⟨_, rfl, hv⟩
end Go.Proofs.Ytnnpmegknlgkoaa
