/- Package halve: compare; slices.SortStableFunc of a few marks. Package halve: whole, half, all, everybody, and which agents and spans it takes. -/
import Derived.Test.YtmfnlapoefihkaaGreatGf
import Derived.Test.YtmfnlapoefihkaaGreatPoint
import Derived.Test.YtmfnlapoefihkaaGreatAskm
import Derived.Test.YtmfnlapoefihkaaGreatTree
import Derived.Test.YtmfnlapoefihkaaGreatGa
import Derived.Deep.CutBlock
import Derived.Deep.DeepCutAuto
namespace Go.Proofs.YtmfnlapoefihkaaGreat
open Go.RowKit
namespace Hv
/-- A mark: whose, and where. -/
abbrev Mk := Nat × Int × Int
def mq (a : Mk) : Rat := Rp.q a.2.1 a.2.2
/-- Further to the left, or as far by a lesser number. -/
def Lx (a b : Mk) : Prop := mq a < mq b ∨ (mq a = mq b ∧ a.1 < b.1)
theorem Lx.trans {a b c : Mk} (h : Lx a b) (k : Lx b c) : Lx a c := by
  unfold Lx at *
  rcases h with h | ⟨h, h2⟩ <;> rcases k with k | ⟨k, k2⟩
  · exact .inl (by grind)
  · exact .inl (by grind)
  · exact .inl (by grind)
  · exact .inr ⟨by grind, by omega⟩
def mcl (a : Mk) : List Value := [.int .i64 (a.1 : Nat), .int .i64 a.2.1, .int .i64 a.2.2]
def cells3 (L : List Mk) : List Value := L.flatMap mcl
theorem cells3_app (L M : List Mk) : cells3 (L ++ M) = cells3 L ++ cells3 M := List.flatMap_append
theorem cells3_cons (a : Mk) (R : List Mk) : cells3 (a :: R) = mcl a ++ cells3 R := rfl
theorem cells3_len (L : List Mk) : (cells3 L).length = L.length * 3 := by
  induction L with
  | nil => rfl
  | cons a L ih => rw [cells3_cons, List.length_append, ih, List.length_cons]; simp [mcl]; omega
theorem set_off {α : Type} {l m : List α} {j : Nat} (h : l.length = j) (i : Nat) (v : α) : (l ++ m).set (j + i) v = l ++ m.set i v := by
  rw [← h, List.set_append_right _ _ (Nat.le_add_right _ _)]
  simp
theorem swap6 {l R : List Value} {j : Nat} (h : l.length = j * 3) (a0 a1 a2 x0 x1 x2 : Value) :
    ((((((l ++ a0 :: a1 :: a2 :: x0 :: x1 :: x2 :: R).set ((j + 1) * 3) a0).set ((j + 1) * 3 + 1) a1).set ((j + 1) * 3 + 2) a2).set (j * 3) x0).set (j * 3 + 1) x1).set (j * 3 + 2) x2 = l ++ x0 :: x1 :: x2 :: a0 :: a1 :: a2 :: R := by
  rw [show (j + 1) * 3 = j * 3 + 3 by omega, show j * 3 + 3 + 1 = j * 3 + 4 by omega, show j * 3 + 3 + 2 = j * 3 + 5 by omega]; rw [set_off h, set_off h, set_off h]; have e := set_off (m := ((((a0 :: a1 :: a2 :: x0 :: x1 :: x2 :: R).set 3 a0).set 4 a1).set 5 a2)) h 0 x0; rw [Nat.add_zero] at e; rw [e, set_off h, set_off h]
  rfl
theorem cell_off {l m : List Value} {j : Nat} (h : l.length = j) (i : Nat) : (l ++ m)[j + i]? = m[i]? := by
  rw [← h, List.getElem?_append_right (Nat.le_add_right _ _)]
  simp
theorem bk_drew {v : World} {p : Nat} {l : List Value} (h : BK v p l) : BK v.drew p l := h
theorem srt_in {A B : List Mk} (h : (A ++ B).Pairwise Lx) {x : Mk} (hb : ∀ b ∈ B, mq x < mq b) (ha : ∀ a ∈ A.getLast?, Lx a x) : (A ++ x :: B).Pairwise Lx := by
  rw [List.pairwise_append] at h ⊢; obtain ⟨h1, h2, h3⟩ := h
  have hax : ∀ a ∈ A, Lx a x := fun a hm => by
    rcases List.eq_nil_or_concat A with rfl | ⟨A', l, rfl⟩
    · cases hm
    · have hl := ha l (by simp)
      rw [List.concat_eq_append] at hm h1
      rcases List.mem_append.1 hm with hm | hm
      · exact ((List.pairwise_append.1 h1).2.2 a hm l (by simp)).trans hl
      · rw [List.mem_singleton.1 hm]; exact hl
  refine ⟨h1, List.pairwise_cons.2 ⟨fun b hm => .inl (hb b hm), h2⟩, fun a hm b hb' => ?_⟩
  rcases List.mem_cons.1 hb' with rfl | hb'
  · exact hax a hm
  · exact h3 a hm b hb'
end Hv
theorem hvcompare_any (n d m c : Int) (h : Rp.Ok n d) (k : Rp.Ok m c) (w : World) :
    Calls Tryz.prog 89 #[.agg #[.int .i64 n, .int .i64 d], .agg #[.int .i64 m, .int .i64 c]] w fun e w' => e = .returned (.int .i64 (Rp.cmpQ (Rp.q n d) (Rp.q m c))) ∧ Below w.heap.size w w' := by
  have h' := h; have k' := k; obtain ⟨h1, h2, h3, h4, _⟩ := h'; obtain ⟨k1, k2, k3, k4, _⟩ := k'
  have cc := fun w => Cmp_any n d m c w (by omega) (by omega) (by omega) (by omega) (by omega) (by omega) (by omega) (by omega)
  rw [Rp.cmpS_ok h k] at cc
  generalize Rp.cmpQ (Rp.q n d) (Rp.q m c) = R at *
  have CC := Lib.hid cc; clear cc h k
  go_enter Tryz.func89, Tryz.ntmps89
  (go_wp2_with fail); refine (CC.out _).mono ?_; rintro e w1 ⟨rfl, hb1⟩; have hbb : Below w.heap.size w w1 := keepB (((Below.refl _ _).alloc (Nat.le_refl _) _).alloc (by simp) _) hb1; clear hb1 CC
  go_wp2
  go_ret
  exact ⟨rfl, hbb⟩
set_option linter.unusedSimpArgs false in
set_option maxHeartbeats 8000000 in
set_option maxRecDepth 100000 in
theorem hvmk1_any (g n d g2 m c : Int) (h : Rp.Ok n d) (k : Rp.Ok m c) (w : World) :
    Calls Tryz.prog 93 #[.agg #[.int .i64 g, .int .i64 n, .int .i64 d], .agg #[.int .i64 g2, .int .i64 m, .int .i64 c]] w fun e w' => e = .returned (.int .i64 (Rp.cmpQ (Rp.q n d) (Rp.q m c))) ∧ Below w.heap.size w w' := by
  have cc := fun w => hvcompare_any n d m c h k w
  generalize Rp.cmpQ (Rp.q n d) (Rp.q m c) = R at *
  have CC := Lib.hid cc; clear cc h k
  go_enter Tryz.func93, Tryz.ntmps93
  (go_wp2_with fail); refine (CC.out _).mono ?_; rintro e w1 ⟨rfl, hb1⟩; have hbb : Below w.heap.size w w1 := keepB (((Below.refl _ _).alloc (Nat.le_refl _) _).alloc (by simp) _) hb1; clear hb1 CC; (go_wp2_with fail)
  go_ret
  exact ⟨rfl, hbb⟩
/-- What the sort leaves. -/
def StbQ (p : Nat) (L : List Hv.Mk) (w w' : World) : Prop := ∃ M : List Hv.Mk, M.Perm L ∧ M.Pairwise Hv.Lx ∧ BK w' p (Hv.cells3 M) ∧ GB (fun k => k = p) w w'
set_option linter.unusedSimpArgs false in
set_option maxHeartbeats 8000000 in
set_option maxRecDepth 100000 in
theorem hvins_any (p n cap : Nat) (L : List Hv.Mk) (w : World) (hn : L.length = n) (h6 : n ≤ 6) (hf : ∀ s ∈ L, Rp.Ok s.2.1 s.2.2) (hi : L.Pairwise fun a b => a.1 < b.1) (hB : BK w p (Hv.cells3 L)) :
    Calls Tryz.prog 166 #[.slice (some ⟨p, 0, none⟩) n cap, .int .i64 0, .int .i64 (n : Nat), .func (.func 93) #[] #[]] w fun e w' => e = .returned (.tuple #[]) ∧ StbQ p L w w' := by
  have HF := Lib.hid hf; have HN := Lib.hid hn; have HI := Lib.hid hi
  have hE : ∀ x y v, Sem.run Tryz.prog (callFunc 93 #[x, y]) v = .ok (.enter 93 #[x, y]) v := fun x y v => by go_simp
  clear hf hn hi
  go_enter Tryz.func166, Tryz.ntmps166
  go_wp2_with fail
  go_loopw [8] (fun i v => ∃ (k : Nat) (S : List Hv.Mk), i = .int .i64 (k : Nat) ∧ 1 ≤ k ∧ (n < k → n = 0) ∧ Hid (S.Perm (L.take k)) ∧ Hid (S.Pairwise Hv.Lx) ∧ BK v p (Hv.cells3 (S ++ L.drop k)) ∧ GB (fun z => z = p) w v) (fun i _ => n + 1 - (intOf i).toNat)
  case atStart =>
    refine ⟨1, L.take 1, rfl, by omega, fun h => by omega, Lib.hid (List.Perm.refl _), Lib.hid ?_, by rw [List.take_append_drop]; exact hB, GB.refl _ _⟩
    cases L with
    | nil => exact List.Pairwise.nil
    | cons s T => exact List.pairwise_singleton _ _
  case round =>
    clear hB; obtain ⟨k, S, rfl, hk1, hk0, hP, hS, hB, hG⟩ := hrel
    by_cases hlt : k < n
    · have i1 : (k : Int) < (n : Int) := by omega
      obtain ⟨x, R, hC⟩ : ∃ x R, L.drop k = x :: R := by
        cases hc : L.drop k with
        | nil =>
          have h3 := HN.out; have := congrArg List.length hc
          simp at this
          omega
        | cons x R => exact ⟨x, R, rfl⟩
      have hxL : x ∈ L := List.mem_of_mem_drop (by rw [hC]; exact List.mem_cons_self ..)
      have hag : ∀ s ∈ L.take k, s.1 < x.1 := fun s hs => by
        have h1 := HI.out; rw [← List.take_append_drop k L, hC, List.pairwise_append] at h1; exact h1.2.2 s hs x (List.mem_cons_self ..)
      have htk : L.take (k + 1) = L.take k ++ [x] := by
        rw [List.take_add_one]
        have : L[k]? = some x := by rw [← List.head?_drop, hC]; rfl
        rw [this]
        rfl
      have hdk : L.drop (k + 1) = R := by rw [← List.tail_drop, hC]; rfl
      rw [hC] at hB; have HXL := Lib.hid hxL; have HAG := Lib.hid hag; have HTK := Lib.hid htk; have HDK := Lib.hid hdk; clear hk0 hC hxL hag htk hdk; (go_wp2_with fail)
      go_loopw [9] (fun j v => ∃ (jj : Nat) (A B : List Hv.Mk), j = .int .i64 (jj : Nat) ∧ jj ≤ k ∧ Hid (A.length = jj) ∧ Hid ((A ++ B).Perm (L.take k)) ∧ Hid ((A ++ B).Pairwise Hv.Lx ∧ ∀ b ∈ B, Hv.mq x < Hv.mq b) ∧ BK v p (Hv.cells3 (A ++ x :: (B ++ R))) ∧ GB (fun z => z = p) w v) (fun j _ => (intOf j).toNat)
      case atStart => exact ⟨k, S, [], rfl, Nat.le_refl _, Lib.hid (by have := hP.out.length_eq; rw [List.length_take, HN.out] at this; omega), Lib.hid (by rw [List.append_nil]; exact hP.out), Lib.hid ⟨by rw [List.append_nil]; exact hS.out, fun b h => (by cases h)⟩, hB, hG⟩
      case round =>
        clear hB hG hP hS; obtain ⟨j, A, B, rfl, hjk, hAB, hP, hS, hB, hG⟩ := hrel
        rcases List.eq_nil_or_concat A with hA | ⟨A', a, hA⟩
        · subst hA
          obtain rfl : 0 = j := hAB.out
          go_upto_region 4 with fail
          refine at_worldQ (fun v => BK v p (Hv.cells3 ([] ++ x :: (B ++ R))) ∧ GB (fun z => z = p) w v) ⟨hB, hG⟩ (fun V hV => ?_); clear hB hG; obtain ⟨hB, hG⟩ := hV
          go_cut [34] (fun t v => t = .bool false ∧ Below V.heap.size V v)
          case first =>
            refine wp_region_held_drew (S := (Below V.heap.size V)) (by kernel_rfl) ((Below.refl _ _).drew) (fun hHeld => ?_); refine at_anyH (Below V.heap.size V) hHeld (fun wo0 hNew => ?_); clear hHeld; have hHeld := hNew; clear hNew; refine tkd 0 rfl hHeld ?_; (try simp only [PPz]); refine tkd 1 rfl hHeld ?_; (try simp only [PPz]); refine tkd 2 rfl hHeld ?_; (try simp only [PPz]); refine tkd 3 rfl hHeld ?_; (try simp only [PPz]); refine tkns 4 rfl hHeld ?_; (try simp only [PPz]); refine tkns 5 rfl hHeld ?_; (try simp only [PPz]); refine tkns 6 rfl hHeld ?_; (try simp only [PPz]); refine tkns 7 rfl hHeld ?_; (try simp only [PPz]); refine tkns 8 rfl hHeld ?_; (try simp only [PPz]); refine tkns 9 rfl hHeld ?_; (try simp only [PPz]); refine tkns 10 rfl hHeld ?_; (try simp only [PPz]); refine tkns 11 rfl hHeld ?_; (try simp only [PPz]); refine tkns 12 rfl hHeld ?_; (try simp only [PPz]); refine tkns 13 rfl hHeld ?_; (try simp only [PPz]); refine tkns 14 rfl hHeld ?_; (try simp only [PPz]); refine tkns 15 rfl hHeld ?_; (try simp only [PPz]); refine tkd 16 rfl hHeld ?_; (try simp only [PPz]); refine wpAnyH_done (by kernel_rfl) ?_ _; (go_wp2_with fail)
            go_meet
            exact ⟨rfl, hHeld⟩
          case rest =>
            obtain ⟨rfl, hb⟩ := hcut; replace hB := hB.keep hb; replace hG := hG.below hb; clear hb; (go_wp2_with fail)
            go_roundw
            case rel =>
              refine ⟨k + 1, x :: B, by go_num, by omega, fun h => (by omega), Lib.hid ?_, Lib.hid (Hv.srt_in (A := []) hS.out.1 hS.out.2 (fun a h => (by cases h))), by rw [HDK.out]; exact hB, hG⟩; rw [HTK.out]; exact (List.Perm.cons x hP.out).trans (List.perm_append_comm (l₁ := [x]))
            case measure => (simp [intOf] <;> omega)
        · rw [List.concat_eq_append] at hA
          subst hA; obtain ⟨jp, hjp⟩ : ∃ z, A'.length = z := ⟨_, rfl⟩
          have hj : j = jp + 1 := by have := hAB.out; simp at this; omega
          subst hj
          have hAx : (A' ++ [a]) ++ x :: (B ++ R) = A' ++ a :: x :: (B ++ R) := by simp
          rw [hAx] at hB
          have hc4 : Hv.cells3 (A' ++ a :: x :: (B ++ R)) = Hv.cells3 A' ++ .int .i64 (a.1 : Nat) :: .int .i64 a.2.1 :: .int .i64 a.2.2 :: .int .i64 (x.1 : Nat) :: .int .i64 x.2.1 :: .int .i64 x.2.2 :: Hv.cells3 (B ++ R) := by
            rw [Hv.cells3_app, Hv.cells3_cons, Hv.cells3_cons]
            rfl
          have hl4 : (Hv.cells3 A').length = jp * 3 := by rw [Hv.cells3_len, hjp]
          have hat : a ∈ L.take k := hP.out.mem_iff.1 (by simp); have fa : Rp.Ok a.2.1 a.2.2 := HF.out a (List.mem_of_mem_take hat); have fx : Rp.Ok x.2.1 x.2.2 := HF.out x HXL.out
          have ls := fun v => hvmk1_any (x.1 : Nat) x.2.1 x.2.2 (a.1 : Nat) a.2.1 a.2.2 fx fa v
          have hneg := decide_eq_decide.1 (Rp.cmpQ_neg (Rp.q x.2.1 x.2.2) (Rp.q a.2.1 a.2.2)); obtain ⟨r, hr⟩ : ∃ z, Rp.cmpQ (Rp.q x.2.1 x.2.2) (Rp.q a.2.1 a.2.2) = z := ⟨_, rfl⟩; rw [hr] at ls hneg; replace hneg : r < 0 ↔ Hv.mq x < Hv.mq a := hneg; have LS := Lib.hid ls; have HNG := Lib.hid hneg; have HL4 := Lib.hid hl4; have HC4 := Lib.hid hc4; have HAT := Lib.hid (HAG.out a hat)
          have hjA : A'.length + 1 ≤ (L.take k).length := by have := hP.out.length_eq; simp at this ⊢; omega
          have hkl : (L.take k).length ≤ k := List.length_take_le _ _; rw [hc4] at hB; obtain ⟨a0, ea0⟩ : ∃ z, ((a.1 : Nat) : Int) = z := ⟨_, rfl⟩; obtain ⟨a1, ea1⟩ : ∃ z, a.2.1 = z := ⟨_, rfl⟩; obtain ⟨a2, ea2⟩ : ∃ z, a.2.2 = z := ⟨_, rfl⟩; obtain ⟨x0, ex0⟩ : ∃ z, ((x.1 : Nat) : Int) = z := ⟨_, rfl⟩; obtain ⟨x1, ex1⟩ : ∃ z, x.2.1 = z := ⟨_, rfl⟩; obtain ⟨x2, ex2⟩ : ∃ z, x.2.2 = z := ⟨_, rfl⟩; rw [ea0, ea1, ea2, ex0, ex1, ex2] at hB LS HC4; have HEQ := Lib.hid (show (((a.1 : Nat) : Int) = a0 ∧ a.2.1 = a1 ∧ a.2.2 = a2) ∧ ((x.1 : Nat) : Int) = x0 ∧ x.2.1 = x1 ∧ x.2.2 = x2 from ⟨⟨ea0, ea1, ea2⟩, ex0, ex1, ex2⟩); clear ls hneg hr hl4 hc4 hAx fa fx ea0 ea1 ea2 ex0 ex1 ex2 hat hjA hkl; have HJP := Lib.hid hjp; clear hjp
          have t5 : (0 : Int) ≤ (jp : Int) + 1 := by omega
          have t6 : IntKind.i64.wrap (jp : Int) = (jp : Int) := IntWalk.i64_in _ (by omega)
          have t8 : IntKind.i64.wrap ((jp : Int) + 1 - 1) = (jp : Int) := by rw [show (jp : Int) + 1 - 1 = (jp : Int) by omega]; exact t6
          have t7 : ((jp : Int) + 1).toNat = jp + 1 := by omega
          have t9 : (jp : Int) + 1 < (n : Int) := by omega
          have t10 : (jp : Int) < (n : Int) := by omega
          have t11 : (0 : Int) < (jp : Int) + 1 := by omega
          have t12 : (0 : Int) ≤ (jp : Int) := by omega
          have t13 : ((jp + 1 : Nat) : Int) = (jp : Int) + 1 := by omega
          rw [t13]
          go_upto_region 4 with fail
          refine at_worldQ (fun v => BK v p (Hv.cells3 A' ++ .int .i64 a0 :: .int .i64 a1 :: .int .i64 a2 :: .int .i64 x0 :: .int .i64 x1 :: .int .i64 x2 :: Hv.cells3 (B ++ R)) ∧ GB (fun z => z = p) w v) ⟨hB, hG⟩ (fun V hV => ?_); clear hB hG; obtain ⟨hB, hG⟩ := hV; have ca0 := hB.c (jp * 3) (x := .int .i64 a0) (by rw [show jp * 3 = jp * 3 + 0 by omega, Hv.cell_off HL4.out]; rfl); have ca1 := hB.c (jp * 3 + 1) (x := .int .i64 a1) (by rw [show jp * 3 + 1 = jp * 3 + 1 by omega, Hv.cell_off HL4.out]; rfl); have ca2 := hB.c (jp * 3 + 2) (x := .int .i64 a2) (by rw [show jp * 3 + 2 = jp * 3 + 2 by omega, Hv.cell_off HL4.out]; rfl); have cx0 := hB.c ((jp + 1) * 3) (x := .int .i64 x0) (by rw [show (jp + 1) * 3 = jp * 3 + 3 by omega, Hv.cell_off HL4.out]; rfl); have cx1 := hB.c ((jp + 1) * 3 + 1) (x := .int .i64 x1) (by rw [show (jp + 1) * 3 + 1 = jp * 3 + 4 by omega, Hv.cell_off HL4.out]; rfl); have cx2 := hB.c ((jp + 1) * 3 + 2) (x := .int .i64 x2) (by rw [show (jp + 1) * 3 + 2 = jp * 3 + 5 by omega, Hv.cell_off HL4.out]; rfl)
          go_cut [34] (fun t v => t = .bool (decide (r < 0)) ∧ Below V.heap.size V v)
          case first =>
            refine wp_region_held_drew (S := (Below V.heap.size V)) (by kernel_rfl) ((Below.refl _ _).drew) (fun hHeld => ?_); refine at_anyH (Below V.heap.size V) hHeld (fun wq0 hNew => ?_); clear hHeld; have hHeld := hNew; clear hNew; refine tkd 0 rfl hHeld ?_; (try simp only [PPz]); refine tkd 1 rfl hHeld ?_; (try simp only [PPz]); refine tkd 2 rfl hHeld ?_; (try simp only [PPz]); refine tkd 3 rfl hHeld ?_; (try simp only [PPz]); refine tkd 4 rfl hHeld ?_; (try simp only [PPz]); refine tkd 5 rfl hHeld ?_; (try simp only [PPz]); refine tkd 6 rfl hHeld ?_; (try simp only [PPz]); refine tkd 7 rfl hHeld ?_; (try simp only [PPz]); refine tkm 8 rfl hHeld (fun w hSw => by have kca0 := keepC hSw ca0; have kca1 := keepC hSw ca1; have kca2 := keepC hSw ca2; have kcx0 := keepC hSw cx0; have kcx1 := keepC hSw cx1; have kcx2 := keepC hSw cx2; go_simp <;> with_reducible rfl) ?_; (try simp only [PPz]); refine tkd 9 rfl hHeld ?_; (try simp only [PPz]); refine tkd 10 rfl hHeld ?_; (try simp only [PPz]); refine tkd 11 rfl hHeld ?_; (try simp only [PPz]); refine tkd 12 rfl hHeld ?_; (try simp only [PPz]); refine tkm 13 rfl hHeld (fun w hSw => by have kca0 := keepC hSw ca0; have kca1 := keepC hSw ca1; have kca2 := keepC hSw ca2; have kcx0 := keepC hSw cx0; have kcx1 := keepC hSw cx1; have kcx2 := keepC hSw cx2; go_simp <;> with_reducible rfl) ?_; (try simp only [PPz]); refine rdy1 14 rfl (fun K hK => ?_); go_simp; refine (LS.out _).mono ?_; rintro e wq15 ⟨rfl, hb3⟩; (go_wp2_with fail); refine hK.out _ _ (keepB hHeld hb3) (fun hNew => ?_); clear hb3; clear hHeld hK K; have hHeld := hNew; clear hNew; (try simp only [PPz]); refine tkd 15 rfl hHeld ?_; (try simp only [PPz]); refine tkd 16 rfl hHeld ?_; (try simp only [PPz]); refine wpAnyH_done (by kernel_rfl) ?_ _; (go_wp2_with fail)
            go_meet
            exact ⟨rfl, hHeld⟩
          case rest =>
            obtain ⟨rfl, hb⟩ := hcut; replace hB := hB.keep hb; replace hG := hG.below hb; clear hb ca0 ca1 ca2 cx0 cx1 cx2
            by_cases hrn : r < 0
            · rw [decide_eq_true hrn]
              have hxa := Lib.hid (HNG.out.1 hrn); clear hrn
              go_upto_region 6 with fail
              refine at_worldQ (fun v => BK v p (Hv.cells3 A' ++ .int .i64 a0 :: .int .i64 a1 :: .int .i64 a2 :: .int .i64 x0 :: .int .i64 x1 :: .int .i64 x2 :: Hv.cells3 (B ++ R)) ∧ GB (fun z => z = p) w v) ⟨hB, hG⟩ (fun V2 hV => ?_); clear hB hG; obtain ⟨hB, hG⟩ := hV; have ca0 := hB.c (jp * 3) (x := .int .i64 a0) (by rw [show jp * 3 = jp * 3 + 0 by omega, Hv.cell_off HL4.out]; rfl); have fa0 := hB.f (jp * 3) (x := .int .i64 a0) (by rw [show jp * 3 = jp * 3 + 0 by omega, Hv.cell_off HL4.out]; rfl); have ca1 := hB.c (jp * 3 + 1) (x := .int .i64 a1) (by rw [show jp * 3 + 1 = jp * 3 + 1 by omega, Hv.cell_off HL4.out]; rfl); have fa1 := hB.f (jp * 3 + 1) (x := .int .i64 a1) (by rw [show jp * 3 + 1 = jp * 3 + 1 by omega, Hv.cell_off HL4.out]; rfl); have ca2 := hB.c (jp * 3 + 2) (x := .int .i64 a2) (by rw [show jp * 3 + 2 = jp * 3 + 2 by omega, Hv.cell_off HL4.out]; rfl); have fa2 := hB.f (jp * 3 + 2) (x := .int .i64 a2) (by rw [show jp * 3 + 2 = jp * 3 + 2 by omega, Hv.cell_off HL4.out]; rfl); have cx0 := hB.c ((jp + 1) * 3) (x := .int .i64 x0) (by rw [show (jp + 1) * 3 = jp * 3 + 3 by omega, Hv.cell_off HL4.out]; rfl); have fx0 := hB.f ((jp + 1) * 3) (x := .int .i64 x0) (by rw [show (jp + 1) * 3 = jp * 3 + 3 by omega, Hv.cell_off HL4.out]; rfl); have cx1 := hB.c ((jp + 1) * 3 + 1) (x := .int .i64 x1) (by rw [show (jp + 1) * 3 + 1 = jp * 3 + 4 by omega, Hv.cell_off HL4.out]; rfl); have fx1 := hB.f ((jp + 1) * 3 + 1) (x := .int .i64 x1) (by rw [show (jp + 1) * 3 + 1 = jp * 3 + 4 by omega, Hv.cell_off HL4.out]; rfl); have cx2 := hB.c ((jp + 1) * 3 + 2) (x := .int .i64 x2) (by rw [show (jp + 1) * 3 + 2 = jp * 3 + 5 by omega, Hv.cell_off HL4.out]; rfl); have fx2 := hB.f ((jp + 1) * 3 + 2) (x := .int .i64 x2) (by rw [show (jp + 1) * 3 + 2 = jp * 3 + 5 by omega, Hv.cell_off HL4.out]; rfl)
              go_big_region
              all_goals go_wp2_with fail
              go_roundw
              case rel =>
                refine ⟨jp, A', a :: B, by go_num, by omega, Lib.hid HJP.out, Lib.hid (by have := hP.out; simpa using this), Lib.hid ⟨by have := hS.out.1; simpa using this, fun b hb => ?_⟩, ?_, ?_⟩
                · rcases List.mem_cons.1 hb with rfl | hb
                  · exact hxa.out
                  · exact hS.out.2 b hb
                · rw [show Hv.cells3 (A' ++ x :: (a :: B ++ R)) = Hv.cells3 A' ++ .int .i64 x0 :: .int .i64 x1 :: .int .i64 x2 :: .int .i64 a0 :: .int .i64 a1 :: .int .i64 a2 :: Hv.cells3 (B ++ R) from (by
                    obtain ⟨⟨q0, q1, q2⟩, q4, q5, q6⟩ := HEQ.out; rw [Hv.cells3_app, List.cons_append, Hv.cells3_cons, Hv.cells3_cons, ← q0, ← q1, ← q2, ← q4, ← q5, ← q6]
                    rfl), ← Hv.swap6 HL4.out]
                  exact Hv.bk_drew ((((((hB.set _ _).set _ _).set _ _).set _ _).set _ _).set _ _)
                · exact ((((((hG.set (.inl rfl) _).set (.inl rfl) _).set (.inl rfl) _).set (.inl rfl) _).set (.inl rfl) _).set (.inl rfl) _).drew
              case measure => (simp [intOf] <;> omega)
            · rw [decide_eq_false hrn]
              have hxa := Lib.hid (fun h => hrn (HNG.out.2 h)); clear hrn; (go_wp2_with fail)
              go_roundw
              case rel =>
                refine ⟨k + 1, A' ++ a :: x :: B, by go_num, by omega, fun h => (by omega), Lib.hid ?_, Lib.hid ?_, ?_, hG⟩
                · rw [HTK.out]
                  have h1 : (A' ++ a :: x :: B).Perm (x :: ((A' ++ [a]) ++ B)) := by
                    have := List.perm_middle (a := x) (l₁ := A' ++ [a]) (l₂ := B)
                    simpa using this
                  exact h1.trans ((List.Perm.cons x hP.out).trans (List.perm_append_comm (l₁ := [x])))
                · have := Hv.srt_in (x := x) hS.out.1 hS.out.2 (fun a' h => (by
                    rw [List.getLast?_append] at h
                    obtain rfl : a = a' := by simpa using h
                    rcases Rat.le_iff_lt_or_eq.1 (Rat.not_lt.1 hxa.out) with q | q
                    · exact .inl q
                    · exact .inr ⟨q, HAT.out⟩))
                  simpa using this
                · rw [HDK.out, show (A' ++ a :: x :: B) ++ R = A' ++ a :: x :: (B ++ R) by simp, HC4.out]
                  exact hB
              case measure => (simp [intOf] <;> omega)
    · have i1 : ¬ (k : Int) < (n : Int) := by omega
      have hn0 := HN.out; rw [List.drop_of_length_le (by omega), List.append_nil] at hB; rw [List.take_of_length_le (by omega)] at hP; (go_wp2_with fail)
      go_end0
      exact ⟨rfl, S, hP.out, hS.out, hB, hG⟩
set_option linter.unusedSimpArgs false in
set_option maxHeartbeats 8000000 in
set_option maxRecDepth 100000 in
theorem hvstb_any (p n cap : Nat) (L : List Hv.Mk) (w : World) (hn : L.length = n) (h6 : n ≤ 6) (hf : ∀ s ∈ L, Rp.Ok s.2.1 s.2.2) (hi : L.Pairwise fun a b => a.1 < b.1) (hB : BK w p (Hv.cells3 L)) :
    Calls Tryz.prog 131 #[.slice (some ⟨p, 0, none⟩) n cap, .int .i64 (n : Nat), .func (.func 93) #[] #[]] w fun e w' => e = .returned (.tuple #[]) ∧ StbQ p L w w' := by
  have ii := hvins_any p n cap L w hn h6 hf hi hB
  have t1 : ¬ (20 : Int) ≤ (n : Int) := by omega
  have t2 : ¬ (20 : Int) < (n : Int) := by omega
  have II := Lib.hid ii; clear ii hn hf hi hB
  go_enter Tryz.func131, Tryz.ntmps131
  (go_wp2_with fail); refine wp_loop_rounds 1 ?_; rw [rounds_succ]; (go_wp2_with fail); refine II.out.mono ?_; rintro e w1 ⟨rfl, hq⟩; (go_wp2_with fail); refine wp_loop_rounds 1 ?_; rw [rounds_succ]; (go_wp2_with fail)
  go_end0
  exact ⟨rfl, hq⟩
set_option linter.unusedSimpArgs false in
set_option maxHeartbeats 8000000 in
set_option maxRecDepth 100000 in
theorem hvsort_any (p n cap : Nat) (L : List Hv.Mk) (w : World) (hn : L.length = n) (h6 : n ≤ 6) (hf : ∀ s ∈ L, Rp.Ok s.2.1 s.2.2) (hi : L.Pairwise fun a b => a.1 < b.1) (hB : BK w p (Hv.cells3 L)) :
    Calls Tryz.prog 92 #[.slice (some ⟨p, 0, none⟩) n cap, .func (.func 93) #[] #[]] w fun e w' => e = .returned (.tuple #[]) ∧ StbQ p L w w' := by
  have ii := hvstb_any p n cap L w hn h6 hf hi hB; have II := Lib.hid ii; clear ii hn hf hi hB
  go_enter Tryz.func92, Tryz.ntmps92
  (go_wp2_with fail); refine II.out.mono ?_; rintro e w1 ⟨rfl, hq⟩; (go_wp2_with fail)
  go_end0
  exact ⟨rfl, hq⟩
end Go.Proofs.YtmfnlapoefihkaaGreat
namespace Go.Proofs.YtmfnlapoefihkaaGreat
open Go.RowKit
theorem hvwhole_any (n : Int) (w : World) : Calls Tryz.prog 62 #[.int .i64 n] w fun e w' => e = .returned (.agg #[.int .i64 n, .int .i64 1]) ∧ Below w.heap.size w w' := by
  go_enter Tryz.func62, Tryz.ntmps62
  go_wp2
  exact bodyPost_ret (v := .agg #[.int .i64 n, .int .i64 1]) (by simp [results, Tryz.results62, go_sem]) rfl ⟨rfl, (Below.refl _ _).alloc (Nat.le_refl _) _⟩
theorem hvhalf_any (A : Option Addr) (n ca : Nat) (w : World) (h6 : n ≤ 6) : Calls Tryz.prog 59 #[.slice A n ca] w fun e w' => e = .returned (.int .i64 ((n / 2 : Nat) : Int)) ∧ w = w' := by
  have hq : (n : Int).tdiv 2 = ((n / 2 : Nat) : Int) := by rw [Int.tdiv_eq_ediv_of_nonneg (by omega)]; omega
  have hw : IntKind.i64.wrap ((n : Int).tdiv 2) = ((n / 2 : Nat) : Int) := by rw [hq]; exact IntWalk.i64_in _ (by omega)
  go_enter Tryz.func59, Tryz.ntmps59
  go_wp2
  all_goals go_ret
  all_goals (first | exact ⟨rfl, rfl⟩ | exact ⟨by simp [hq, hw], rfl⟩)
set_option linter.unusedSimpArgs false in
set_option maxHeartbeats 8000000 in
set_option maxRecDepth 100000 in
theorem hvall_any (A : Option Addr) (ca : Nat) (cs : List CkR) (Q : Option Addr) (m cq : Nat) (len : Int) (w : World) (h : IsCs w A cs) (h0 : 0 < cs.length) (hl : (Ak.cat cs 0).len = len) :
    Calls Tryz.prog 31 #[.agg #[.slice A cs.length ca, .slice Q m cq]] w fun e w' => e = .returned (.agg #[.int .i64 0, .int .i64 1, .int .i64 len, .int .i64 1]) ∧ Below w.heap.size w w' := by
  obtain ⟨bb, o, hA, hcl⟩ := h.at_; obtain rfl := hA h0; have hc0 := (hcl 0 h0).1; rw [hl, show o + 0 * 3 = o by omega] at hc0
  have wl := fun v => hvwhole_any len v
  have wz := fun v => hvwhole_any 0 v
  have WL := Lib.hid wl; have WZ := Lib.hid wz
  have i1 : (0 : Int) < (cs.length : Int) := by omega
  have hbo : bb < w.heap.size := lt_of_cell hc0; clear hcl hA h hl wl wz
  go_enter Tryz.func31, Tryz.ntmps31
  go_upto_region 1 with fail
  refine at_box2 (fun V hbb B0 B1 hVs => ?_); have p0 := B0.c 0 rfl; have c0 := keepC hbb hc0; have BT := B1; refine wp_region_noPanic ?_; refine wp_region_held_drew (S := (GB (fun k => k = w.heap.size + 1) V)) (by kernel_rfl) ((GB.refl _ _).drew) (fun hHeld => ?_); refine at_anyH (fun v => GB (fun k => k = w.heap.size + 1) V v ∧ BK v (w.heap.size + 1) [.int .i64 0, .int .i64 0, .int .i64 0, .int .i64 0]) ⟨hHeld, BT.drew⟩ (fun wt0 hNew => ?_); clear hHeld BT; obtain ⟨hHeld, BT⟩ := hNew; refine tkd 1 rfl hHeld ?_; (try simp only [PPz]); refine tkm 2 rfl hHeld (fun w hSw => by have kp0 := hSw.cell (by omega) p0; have kc0 := hSw.cell (by omega) c0; go_simp <;> with_reducible rfl) ?_; (try simp only [PPz]); refine tkd 3 rfl hHeld ?_; (try simp only [PPz]); refine tkd 4 rfl hHeld ?_; (try simp only [PPz]); refine tkm 5 rfl hHeld (fun w hSw => by have kp0 := hSw.cell (by omega) p0; have kc0 := hSw.cell (by omega) c0; go_simp <;> with_reducible rfl) ?_; (try simp only [PPz]); refine rdy1 0 rfl (fun K hK => ?_); go_simp; refine (WZ.out _).mono ?_; rintro e wt6 ⟨rfl, hb3⟩; (go_wp2_with fail); refine hK.out _ _ (hHeld.below hb3) (fun hNew => ?_); replace BT := BT.keep hb3; clear hb3; clear hHeld hK K; have hHeld := hNew; clear hNew; (try simp only [PPz]); refine rdy1 6 rfl (fun K hK => ?_); go_simp; refine (WL.out _).mono ?_; rintro e wt7 ⟨rfl, hb3⟩; (go_wp2_with fail); refine hK.out _ _ (hHeld.below hb3) (fun hNew => ?_); replace BT := BT.keep hb3; clear hb3; clear hHeld hK K; have hHeld := hNew; clear hNew; (try simp only [PPz]); refine tkd 7 rfl hHeld ?_; (try simp only [PPz]); refine rdy1 8 rfl (fun K hK => ?_); have n0 := BT.c 0 rfl; have f0 := BT.f 0 rfl; have n1 := BT.c 1 rfl; have f1 := BT.f 1 rfl; have n2 := BT.c 2 rfl; have f2 := BT.f 2 rfl; have n3 := BT.c 3 rfl; have f3 := BT.f 3 rfl; go_simp; clear n0 f0 n1 f1 n2 f2 n3 f3; refine hK.out _ _ ((((hHeld.set (.inl rfl) _).set (.inl rfl) _).set (.inl rfl) _).set (.inl rfl) _) (fun hNew => ?_); clear hHeld hK K; have hHeld := hNew; clear hNew; (try simp only [PPz]); refine at_anyH (fun v => GB (fun k => k = w.heap.size + 1) V v ∧ BK v (w.heap.size + 1) [.int .i64 0, .int .i64 1, .int .i64 len, .int .i64 1]) ⟨hHeld, ((((BT.set 0 _).set 1 _).set 2 _).set 3 _)⟩ (fun wt9 hS => ?_); clear hHeld BT; obtain ⟨hHeld, BT⟩ := hS; refine wpAnyH_done (by kernel_rfl) ?_ _; refine NoPanic.normal ?_; have hbb2 := hHeld.toBelow hbb (fun k hk => by omega) (by omega); have ya0 := BT.c 0 rfl; have ya1 := BT.c 1 rfl; have ya2 := BT.c 2 rfl; have ya3 := BT.c 3 rfl; (go_wp2_with fail); exact bodyPost_ret (v := .agg #[.int .i64 0, .int .i64 1, .int .i64 len, .int .i64 1]) (by simp [results, Tryz.results31, go_sem, ya0, ya1, ya2, ya3]) rfl ⟨rfl, hbb2⟩
theorem hvbk_rown {w : World} {B n : Nat} {e : TypeId} {v : Value} {xs : List Value} (h : w.ownsRow B e 1 v n xs) (hn : 0 < n) : ∃ g cap, v = .slice (some ⟨g, 0, none⟩) n cap ∧ B ≤ g ∧ n ≤ cap ∧ BK w g xs := by
  rcases h.2 with ⟨_, h0⟩ | ⟨g, cap, cur, hv, hb, hg, hc, _, hs, ht⟩
  · omega
  · have hlt : g < w.heap.size := (Array.getElem?_eq_some_iff.1 hg).1
    refine ⟨g, cap, hv, hb, hc, hlt, fun j x ej => ?_⟩; rw [← ht] at ej
    have hj : cur[j]? = some x := by
      rw [List.getElem?_take] at ej
      split at ej
      · simpa using ej
      · cases ej
    constructor
    · simp [World.cell?, hg, hj]
    · simp [World.frozen?, hg]
/-- The numbers of the first agents. -/
def Hv.rng (k : Nat) : List Int := (List.range k).map fun (j : Nat) => (j : Int)
theorem Hv.rng_len (k : Nat) : (Hv.rng k).length = k := by unfold Hv.rng; simp
theorem Hv.rng_succ (k : Nat) : Hv.rng (k + 1) = Hv.rng k ++ [(k : Int)] := by unfold Hv.rng; rw [List.range_succ, List.map_append]; rfl
set_option linter.unusedSimpArgs false in
set_option maxHeartbeats 8000000 in
set_option maxRecDepth 100000 in
theorem hvevery_any (A : Option Addr) (n ca : Nat) (Q : Option Addr) (m cq : Nat) (w : World) (h1 : 1 ≤ n) (h6 : n ≤ 6) :
    Calls Tryz.prog 30 #[.agg #[.slice A n ca, .slice Q m cq]] w fun e w' => ∃ g cap : Nat, e = .returned (.slice (some ⟨g, 0, none⟩) n cap) ∧ w.heap.size ≤ g ∧ n ≤ cap ∧ BK w' g ((Hv.rng n).map (Value.int .i64)) ∧ Below w.heap.size w w' := by
  obtain ⟨i0, hi0, hz0, hz1, hz2⟩ := info_parts intInfo; have HI := Lib.hid hi0; have HI2 := Lib.hid hz0; have HI3 := Lib.hid hz1; have HI4 := Lib.hid hz2; clear hi0 hz0 hz1 hz2
  go_enter Tryz.func30, Tryz.ntmps30
  go_upto_region 1 with fail
  refine at_box1 (fun V hbb B0 hVs => ?_); have p0 := B0.c 0 rfl; (go_wp2_with fail); clear p0
  go_loopw [3, 8] (fun s i W => ∃ k : Nat, k ≤ n ∧ i = .int .i64 k ∧ Own W (w.heap.size + 1) s (Hv.rng k) ∧ Below w.heap.size w W ∧ w.heap.size + 1 ≤ W.heap.size) (fun _ i _ => n - (intOf i).toNat)
  case atStart => exact ⟨0, Nat.zero_le _, rfl, Own.nil_ _ _, hbb, by omega⟩
  case round =>
    clear hbb B0 hVs; obtain ⟨k, hk, rfl, hO, hbb, hws⟩ := hrel
    by_cases hlt : k < n
    · have i2 : (k : Int) < (n : Int) := by omega
      have HT := Lib.hid (Hv.rng_succ k); have HL := Lib.hid (Hv.rng_len k); obtain ⟨T, hT⟩ : ∃ T, Hv.rng k = T := ⟨_, rfl⟩; rw [hT] at hO; have HT2 := Lib.hid hT
      have hnT : T.length = k := by rw [← hT]; exact Hv.rng_len k
      obtain ⟨nE, hE'⟩ : ∃ z, T.length = z := ⟨_, rfl⟩; have hE := Lib.hid hE'
      have hk6 : nE ≤ 6 := by omega
      unfold Own at hO
      rw [hE'] at hO; clear hT hnT hE'
      go_wp2_with (at_builtin; refine wpList_append_lies _ rfl _ _ _ rfl (w.heap.size + 1) 3 i0 _ 1 8 Tryz.underlying42 HI.out HI2.out HI3.out HI4.out rfl (by omega) _ nE (T.map (Value.int .i64)) (by rfl) (World.ownsRow.alloc hO _) ⟨wr.heap.size, 0, none⟩ 1 1 [.int .i64 (k : Int)] (by rfl) (by rfl) (World.news_of_block (cs := #[.int .i64 (k : Int)]) (t := 3) (fr := (0, 0)) (heap_alloc_new wr _)) (by simp [Value.oneCell']) (by omega) (by unfold maxLen; omega) (by omega) (by simp; omega) (wr.heap.size + 1) (by simp) ?_; intro g cap w1 hown1 hgrow hat hglt)
      all_goals
        (try go_wp2_with fail)
        go_roundw
        case rel =>
          refine ⟨k + 1, by omega, by go_num, ?_, ?_, ?_⟩
          · rw [HT.out, HT2.out]
            unfold Own
            rw [List.length_append, hE.out, List.map_append]; exact hown1
          · exact (below_al hbb _).grown hgrow (by simp; omega) (fun j ej => by
              have := (World.ownsRow.lt hO j ej).1
              omega)
          · have := hgrow.size
            simp at this
            omega
        case measure => (simp [intOf] <;> omega)
    · obtain rfl : k = n := by omega
      unfold Own at hO
      rw [Hv.rng_len] at hO; obtain ⟨g, cap, rfl, hg, hcap, hB⟩ := hvbk_rown hO (by omega)
      have i2 : ¬ (k : Int) < (k : Int) := by omega
      have HB := Lib.hid hB; clear hO hB HI HI2 HI3 HI4; (go_wp2_with fail)
      go_ret
      exact ⟨g, cap, rfl, by omega, hcap, HB.out, hbb⟩
end Go.Proofs.YtmfnlapoefihkaaGreat

