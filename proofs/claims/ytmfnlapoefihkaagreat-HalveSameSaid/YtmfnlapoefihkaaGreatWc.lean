/- slices.Sort of a few agents. Package halve: agentsOf. Package halve: isPoint, liesIn, areAgents where they say yes. -/
import Derived.Test.YtmfnlapoefihkaaGreatAskm
import Derived.Test.YtmfnlapoefihkaaGreatTree
import Derived.Test.YtmfnlapoefihkaaGreatLen
import Derived.Deep.CutBlock
import Derived.Deep.DeepCutAuto
import Derived.Test.YtmfnlapoefihkaaGreatWa
namespace Go.Proofs.YtmfnlapoefihkaaGreat
open Go.RowKit
namespace Hi
def cells1 (L : List Nat) : List Value := L.map fun a => .int .i64 (a : Nat)
theorem cells1_app (L M : List Nat) : cells1 (L ++ M) = cells1 L ++ cells1 M := List.map_append
theorem cells1_cons (a : Nat) (R : List Nat) : cells1 (a :: R) = .int .i64 (a : Nat) :: cells1 R := rfl
theorem cells1_len (L : List Nat) : (cells1 L).length = L.length := List.length_map _
theorem swap2 {l R : List Value} {j : Nat} (h : l.length = j) (a x : Value) : ((l ++ a :: x :: R).set (j + 1) a).set j x = l ++ x :: a :: R := by
  rw [← h, List.set_append_right _ _ (by omega), List.set_append_right _ _ (by omega)]
  simp
theorem cell_off {l m : List Value} {j : Nat} (h : l.length = j) (i : Nat) : (l ++ m)[j + i]? = m[i]? := by
  rw [← h, List.getElem?_append_right (Nat.le_add_right _ _)]
  simp
theorem bk_drew {v : World} {p : Nat} {l : List Value} (h : BK v p l) : BK v.drew p l := h
abbrev Inc (L : List Nat) : Prop := L.Pairwise fun a b => a ≤ b
theorem srt_in {A B : List Nat} (h : Inc (A ++ B)) {x : Nat} (hb : ∀ b ∈ B, x < b) (ha : ∀ a ∈ A.getLast?, a ≤ x) : Inc (A ++ x :: B) := by
  unfold Inc at *
  rw [List.pairwise_append] at h ⊢; obtain ⟨h1, h2, h3⟩ := h
  have hax : ∀ a ∈ A, a ≤ x := fun a hm => by
    rcases List.eq_nil_or_concat A with rfl | ⟨A', l, rfl⟩
    · cases hm
    · have hl := ha l (by simp)
      rw [List.concat_eq_append] at hm h1
      rcases List.mem_append.1 hm with hm | hm
      · exact Nat.le_trans ((List.pairwise_append.1 h1).2.2 a hm l (by simp)) hl
      · rw [List.mem_singleton.1 hm]; exact hl
  refine ⟨h1, List.pairwise_cons.2 ⟨fun b hm => Nat.le_of_lt (hb b hm), h2⟩, fun a hm b hb' => ?_⟩
  rcases List.mem_cons.1 hb' with rfl | hb'
  · exact hax a hm
  · exact h3 a hm b hb'
end Hi
theorem hisnan_any (x : Int) (w : World) : Calls Tryz.prog 201 #[.int .i64 x] w fun e w' => e = .returned (.bool false) ∧ w = w' := by
  go_enter Tryz.func201, Tryz.ntmps201
  go_wp2
  all_goals (try go_ret)
  all_goals (try exact ⟨rfl, rfl⟩)
theorem hiless_any (x y : Int) (w : World) : Calls Tryz.prog 174 #[.int .i64 x, .int .i64 y] w fun e w' => e = .returned (.bool (decide (x < y))) ∧ w = w' := by
  have ii := hisnan_any; have II := Lib.hid ii; clear ii
  go_enter Tryz.func174, Tryz.ntmps174
  (go_wp2_with fail); refine (II.out _ _).mono ?_; rintro e w1 ⟨rfl, rfl⟩; (go_wp2_with fail)
  go_ret
  exact ⟨rfl, rfl⟩
/-- What the sort leaves. -/
def SrtI (p : Nat) (L : List Nat) (w w' : World) : Prop := ∃ M : List Nat, M.Perm L ∧ Hi.Inc M ∧ BK w' p (Hi.cells1 M) ∧ GB (fun k => k = p) w w'
set_option linter.unusedSimpArgs false in
set_option maxHeartbeats 8000000 in
set_option maxRecDepth 100000 in
theorem hiins_any (p n cap : Nat) (L : List Nat) (w : World) (hn : L.length = n) (h6 : n ≤ 6) (hB : BK w p (Hi.cells1 L)) :
    Calls Tryz.prog 168 #[.slice (some ⟨p, 0, none⟩) n cap, .int .i64 0, .int .i64 (n : Nat)] w fun e w' => e = .returned (.tuple #[]) ∧ SrtI p L w w' := by
  have HN := Lib.hid hn; clear hn
  go_enter Tryz.func168, Tryz.ntmps168
  go_wp2_with fail
  go_loopw [6] (fun i v => ∃ (k : Nat) (S : List Nat), i = .int .i64 (k : Nat) ∧ 1 ≤ k ∧ (n < k → n = 0) ∧ Hid (S.Perm (L.take k)) ∧ Hid (Hi.Inc S) ∧ BK v p (Hi.cells1 (S ++ L.drop k)) ∧ GB (fun z => z = p) w v) (fun i _ => n + 1 - (intOf i).toNat)
  case atStart =>
    refine ⟨1, L.take 1, rfl, by omega, fun h => by omega, Lib.hid (List.Perm.refl _), Lib.hid ?_, by rw [List.take_append_drop]; exact hB, GB.refl _ _⟩
    cases L with
    | nil => exact List.Pairwise.nil
    | cons s T => exact List.pairwise_singleton _ _
  case round =>
    clear hB; obtain ⟨k, S, rfl, hk1, hk0, hP, hS, hB, hG⟩ := hrel
    by_cases hlt : k < n
    · have i1 : (k : Int) < (n : Int) := by omega
      obtain ⟨x, R, hC⟩ : ∃ x R, L.drop k = x :: R := by
        cases hc : L.drop k with
        | nil =>
          have h3 := HN.out; have := congrArg List.length hc
          simp at this
          omega
        | cons x R => exact ⟨x, R, rfl⟩
      have htk : L.take (k + 1) = L.take k ++ [x] := by
        rw [List.take_add_one]
        have : L[k]? = some x := by rw [← List.head?_drop, hC]; rfl
        rw [this]
        rfl
      have hdk : L.drop (k + 1) = R := by rw [← List.tail_drop, hC]; rfl
      rw [hC] at hB; have HTK := Lib.hid htk; have HDK := Lib.hid hdk; clear hk0 hC htk hdk; (go_wp2_with fail)
      go_loopw [7] (fun j v => ∃ (jj : Nat) (A B : List Nat), j = .int .i64 (jj : Nat) ∧ jj ≤ k ∧ Hid (A.length = jj) ∧ Hid ((A ++ B).Perm (L.take k)) ∧ Hid (Hi.Inc (A ++ B) ∧ ∀ b ∈ B, x < b) ∧ BK v p (Hi.cells1 (A ++ x :: (B ++ R))) ∧ GB (fun z => z = p) w v) (fun j _ => (intOf j).toNat)
      case atStart => exact ⟨k, S, [], rfl, Nat.le_refl _, Lib.hid (by have := hP.out.length_eq; rw [List.length_take, HN.out] at this; omega), Lib.hid (by rw [List.append_nil]; exact hP.out), Lib.hid ⟨by rw [List.append_nil]; exact hS.out, fun b h => (by cases h)⟩, hB, hG⟩
      case round =>
        clear hB hG hP hS; obtain ⟨j, A, B, rfl, hjk, hAB, hP, hS, hB, hG⟩ := hrel
        rcases List.eq_nil_or_concat A with hA | ⟨A', a, hA⟩
        · subst hA
          obtain rfl : 0 = j := hAB.out
          go_upto_region 4 with fail
          refine at_worldQ (fun v => BK v p (Hi.cells1 ([] ++ x :: (B ++ R))) ∧ GB (fun z => z = p) w v) ⟨hB, hG⟩ (fun V hV => ?_); clear hB hG; obtain ⟨hB, hG⟩ := hV
          go_cut [30] (fun t v => t = .bool false ∧ Below V.heap.size V v)
          case first =>
            refine wp_region_held_drew (S := (Below V.heap.size V)) (by kernel_rfl) ((Below.refl _ _).drew) (fun hHeld => ?_); refine at_anyH (Below V.heap.size V) hHeld (fun wo0 hNew => ?_); clear hHeld; have hHeld := hNew; clear hNew; refine tkd 0 rfl hHeld ?_; (try simp only [PPz]); refine tkd 1 rfl hHeld ?_; (try simp only [PPz]); refine tkd 2 rfl hHeld ?_; (try simp only [PPz]); refine tkd 3 rfl hHeld ?_; (try simp only [PPz]); refine tkns 4 rfl hHeld ?_; (try simp only [PPz]); refine tkns 5 rfl hHeld ?_; (try simp only [PPz]); refine tkns 6 rfl hHeld ?_; (try simp only [PPz]); refine tkns 7 rfl hHeld ?_; (try simp only [PPz]); refine tkns 8 rfl hHeld ?_; (try simp only [PPz]); refine tkns 9 rfl hHeld ?_; (try simp only [PPz]); refine tkns 10 rfl hHeld ?_; (try simp only [PPz]); refine tkns 11 rfl hHeld ?_; (try simp only [PPz]); refine tkns 12 rfl hHeld ?_; (try simp only [PPz]); refine tkns 13 rfl hHeld ?_; (try simp only [PPz]); refine tkd 14 rfl hHeld ?_; (try simp only [PPz]); refine wpAnyH_done (by kernel_rfl) ?_ _; (go_wp2_with fail)
            go_meet
            exact ⟨rfl, hHeld⟩
          case rest =>
            obtain ⟨rfl, hb⟩ := hcut; replace hB := hB.keep hb; replace hG := hG.below hb; clear hb; (go_wp2_with fail)
            go_roundw
            case rel =>
              refine ⟨k + 1, x :: B, by go_num, by omega, fun h => (by omega), Lib.hid ?_, Lib.hid (Hi.srt_in (A := []) hS.out.1 hS.out.2 (fun a h => (by cases h))), by rw [HDK.out]; exact hB, hG⟩; rw [HTK.out]; exact (List.Perm.cons x hP.out).trans (List.perm_append_comm (l₁ := [x]))
            case measure => (simp [intOf] <;> omega)
        · rw [List.concat_eq_append] at hA
          subst hA; obtain ⟨jp, hjp⟩ : ∃ z, A'.length = z := ⟨_, rfl⟩
          have hj : j = jp + 1 := by have := hAB.out; simp at this; omega
          subst hj
          have hAx : (A' ++ [a]) ++ x :: (B ++ R) = A' ++ a :: x :: (B ++ R) := by simp
          rw [hAx] at hB
          have hc4 : Hi.cells1 (A' ++ a :: x :: (B ++ R)) = Hi.cells1 A' ++ .int .i64 (a : Nat) :: .int .i64 (x : Nat) :: Hi.cells1 (B ++ R) := by
            rw [Hi.cells1_app, Hi.cells1_cons, Hi.cells1_cons]
          have hl4 : (Hi.cells1 A').length = jp := by rw [Hi.cells1_len, hjp]
          have HL4 := Lib.hid hl4; have HC4 := Lib.hid hc4; rw [hc4] at hB; obtain ⟨a0, ea0⟩ : ∃ z, ((a : Nat) : Int) = z := ⟨_, rfl⟩; obtain ⟨x0, ex0⟩ : ∃ z, ((x : Nat) : Int) = z := ⟨_, rfl⟩; rw [ea0, ex0] at hB HC4; have HEQ := Lib.hid (show ((a : Nat) : Int) = a0 ∧ ((x : Nat) : Int) = x0 from ⟨ea0, ex0⟩); have HNG := Lib.hid (show x0 < a0 ↔ x < a by omega)
          have ls := fun v => (hiless_any x0 a0 v).mono (R' := fun e w' => e = .returned (.bool (decide (x0 < a0))) ∧ Below v.heap.size v w') (fun e w' h => ⟨h.1, h.2 ▸ Below.refl _ _⟩)
          have LS := Lib.hid ls; clear ls hl4 hc4 hAx ea0 ex0
          have hjA : A'.length + 1 ≤ (L.take k).length := by have := hP.out.length_eq; simp at this ⊢; omega
          have hkl : (L.take k).length ≤ k := List.length_take_le _ _; have HJP := Lib.hid hjp
          have t5 : (0 : Int) ≤ (jp : Int) + 1 := by omega
          have t6 : IntKind.i64.wrap (jp : Int) = (jp : Int) := IntWalk.i64_in _ (by omega)
          have t8 : IntKind.i64.wrap ((jp : Int) + 1 - 1) = (jp : Int) := by rw [show (jp : Int) + 1 - 1 = (jp : Int) by omega]; exact t6
          have t7 : ((jp : Int) + 1).toNat = jp + 1 := by omega
          have t9 : (jp : Int) + 1 < (n : Int) := by omega
          have t10 : (jp : Int) < (n : Int) := by omega
          have t11 : (0 : Int) < (jp : Int) + 1 := by omega
          have t12 : (0 : Int) ≤ (jp : Int) := by omega
          have t13 : ((jp + 1 : Nat) : Int) = (jp : Int) + 1 := by omega
          rw [t13]; clear hjp hjA hkl
          go_upto_region 4 with fail
          refine at_worldQ (fun v => BK v p (Hi.cells1 A' ++ .int .i64 a0 :: .int .i64 x0 :: Hi.cells1 (B ++ R)) ∧ GB (fun z => z = p) w v) ⟨hB, hG⟩ (fun V hV => ?_); clear hB hG; obtain ⟨hB, hG⟩ := hV; have ca0 := hB.c (jp) (x := .int .i64 a0) (by rw [show jp = jp + 0 by omega, Hi.cell_off HL4.out]; rfl); have cx0 := hB.c (jp + 1) (x := .int .i64 x0) (by rw [show jp + 1 = jp + 1 by omega, Hi.cell_off HL4.out]; rfl)
          go_cut [30] (fun t v => t = .bool (decide (x0 < a0)) ∧ Below V.heap.size V v)
          case first =>
            refine wp_region_held_drew (S := (Below V.heap.size V)) (by kernel_rfl) ((Below.refl _ _).drew) (fun hHeld => ?_); refine at_anyH (Below V.heap.size V) hHeld (fun wq0 hNew => ?_); clear hHeld; have hHeld := hNew; clear hNew; refine tkd 0 rfl hHeld ?_; (try simp only [PPz]); refine tkd 1 rfl hHeld ?_; (try simp only [PPz]); refine tkd 2 rfl hHeld ?_; (try simp only [PPz]); refine tkd 3 rfl hHeld ?_; (try simp only [PPz]); refine tkd 4 rfl hHeld ?_; (try simp only [PPz]); refine tkd 5 rfl hHeld ?_; (try simp only [PPz]); refine tkd 6 rfl hHeld ?_; (try simp only [PPz]); refine tkm 7 rfl hHeld (fun w hSw => by have kca0 := keepC hSw ca0; have kcx0 := keepC hSw cx0; go_simp <;> with_reducible rfl) ?_; (try simp only [PPz]); refine tkd 8 rfl hHeld ?_; (try simp only [PPz]); refine tkd 9 rfl hHeld ?_; (try simp only [PPz]); refine tkd 10 rfl hHeld ?_; (try simp only [PPz]); refine tkd 11 rfl hHeld ?_; (try simp only [PPz]); refine tkm 12 rfl hHeld (fun w hSw => by have kca0 := keepC hSw ca0; have kcx0 := keepC hSw cx0; go_simp <;> with_reducible rfl) ?_; (try simp only [PPz]); refine rdy1 13 rfl (fun K hK => ?_); go_simp; refine (LS.out _).mono ?_; rintro e wq14 ⟨rfl, hb3⟩; (go_wp2_with fail); refine hK.out _ _ (keepB hHeld hb3) (fun hNew => ?_); clear hb3; clear hHeld hK K; have hHeld := hNew; clear hNew; (try simp only [PPz]); refine tkd 14 rfl hHeld ?_; (try simp only [PPz]); refine wpAnyH_done (by kernel_rfl) ?_ _; (go_wp2_with fail)
            go_meet
            exact ⟨rfl, hHeld⟩
          case rest =>
            obtain ⟨rfl, hb⟩ := hcut; replace hB := hB.keep hb; replace hG := hG.below hb; clear hb ca0 cx0
            by_cases hrn : x0 < a0
            · rw [decide_eq_true hrn]
              have hxa := Lib.hid (HNG.out.1 hrn); clear hrn
              go_upto_region 6 with fail
              refine at_worldQ (fun v => BK v p (Hi.cells1 A' ++ .int .i64 a0 :: .int .i64 x0 :: Hi.cells1 (B ++ R)) ∧ GB (fun z => z = p) w v) ⟨hB, hG⟩ (fun V2 hV => ?_); clear hB hG; obtain ⟨hB, hG⟩ := hV; have ca0 := hB.c (jp) (x := .int .i64 a0) (by rw [show jp = jp + 0 by omega, Hi.cell_off HL4.out]; rfl); have fa0 := hB.f (jp) (x := .int .i64 a0) (by rw [show jp = jp + 0 by omega, Hi.cell_off HL4.out]; rfl); have cx0 := hB.c (jp + 1) (x := .int .i64 x0) (by rw [show jp + 1 = jp + 1 by omega, Hi.cell_off HL4.out]; rfl); have fx0 := hB.f (jp + 1) (x := .int .i64 x0) (by rw [show jp + 1 = jp + 1 by omega, Hi.cell_off HL4.out]; rfl)
              go_big_region
              all_goals go_wp2_with fail
              go_roundw
              case rel =>
                refine ⟨jp, A', a :: B, by go_num, by omega, Lib.hid HJP.out, Lib.hid (by have := hP.out; simpa using this), Lib.hid ⟨by have := hS.out.1; simpa using this, fun b hb => ?_⟩, ?_, ?_⟩
                · rcases List.mem_cons.1 hb with rfl | hb
                  · exact hxa.out
                  · exact hS.out.2 b hb
                · rw [show Hi.cells1 (A' ++ x :: (a :: B ++ R)) = Hi.cells1 A' ++ .int .i64 x0 :: .int .i64 a0 :: Hi.cells1 (B ++ R) from (by
                    obtain ⟨q0, q4⟩ := HEQ.out
                    rw [Hi.cells1_app, List.cons_append, Hi.cells1_cons, Hi.cells1_cons, ← q0, ← q4]), ← Hi.swap2 HL4.out]
                  exact Hi.bk_drew ((hB.set _ _).set _ _)
                · exact ((hG.set (.inl rfl) _).set (.inl rfl) _).drew
              case measure => (simp [intOf] <;> omega)
            · rw [decide_eq_false hrn]
              have hxa := Lib.hid (fun h => hrn (HNG.out.2 h)); clear hrn; (go_wp2_with fail)
              go_roundw
              case rel =>
                refine ⟨k + 1, A' ++ a :: x :: B, by go_num, by omega, fun h => (by omega), Lib.hid ?_, Lib.hid ?_, ?_, hG⟩
                · rw [HTK.out]
                  have h1 : (A' ++ a :: x :: B).Perm (x :: ((A' ++ [a]) ++ B)) := by
                    have := List.perm_middle (a := x) (l₁ := A' ++ [a]) (l₂ := B)
                    simpa using this
                  exact h1.trans ((List.Perm.cons x hP.out).trans (List.perm_append_comm (l₁ := [x])))
                · have := Hi.srt_in (x := x) hS.out.1 hS.out.2 (fun a' h => (by
                    rw [List.getLast?_append] at h
                    obtain rfl : a = a' := by simpa using h
                    exact Nat.not_lt.1 hxa.out))
                  simpa using this
                · rw [HDK.out, show (A' ++ a :: x :: B) ++ R = A' ++ a :: x :: (B ++ R) by simp, HC4.out]
                  exact hB
              case measure => (simp [intOf] <;> omega)
    · have i1 : ¬ (k : Int) < (n : Int) := by omega
      have hn0 := HN.out; rw [List.drop_of_length_le (by omega), List.append_nil] at hB; rw [List.take_of_length_le (by omega)] at hP; (go_wp2_with fail)
      go_end0
      exact ⟨rfl, S, hP.out, hS.out, hB, hG⟩
set_option linter.unusedSimpArgs false in
set_option maxHeartbeats 8000000 in
set_option maxRecDepth 100000 in
theorem hipdq_any (p n cap : Nat) (lim : Int) (L : List Nat) (w : World) (hn : L.length = n) (h6 : n ≤ 6) (hB : BK w p (Hi.cells1 L)) :
    Calls Tryz.prog 132 #[.slice (some ⟨p, 0, none⟩) n cap, .int .i64 0, .int .i64 (n : Nat), .int .i64 lim] w fun e w' => e = .returned (.tuple #[]) ∧ SrtI p L w w' := by
  have ii := hiins_any p n cap L w hn h6 hB; have t1 : IntKind.i64.wrap (n : Int) = (n : Int) := IntWalk.i64_in _ (by omega)
  have t2 : (n : Int) ≤ 12 := by omega
  have II := Lib.hid ii; clear ii hn hB
  go_enter Tryz.func132, Tryz.ntmps132
  (go_wp2_with fail); refine wp_loop_rounds 1 ?_; rw [rounds_succ]; (go_wp2_with fail); refine II.out.mono ?_; rintro e w1 ⟨rfl, hq⟩; (go_wp2_with fail)
  (try simp only [Exit.inBlock, Exit.then]); refine bodyPost_ret (results_none rfl _ _ _) rfl ?_
  exact ⟨rfl, hq⟩
set_option linter.unusedSimpArgs false in
set_option maxHeartbeats 8000000 in
set_option maxRecDepth 100000 in
theorem hisort_any (p n cap : Nat) (L : List Nat) (w : World) (hn : L.length = n) (h6 : n ≤ 6) (hB : BK w p (Hi.cells1 L)) :
    Calls Tryz.prog 94 #[.slice (some ⟨p, 0, none⟩) n cap] w fun e w' => e = .returned (.tuple #[]) ∧ SrtI p L w w' := by
  have ii := fun lim => hipdq_any p n cap lim L w hn h6 hB
  have ll := len64_any (n : Int) (by omega) (by omega) w
  have t1 : IntKind.u64.wrap (n : Int) = (n : Int) := by simp [IntKind.wrap, IntKind.bits, IntKind.signed]; omega
  generalize (Lib.bitLen (n : Int).toNat : Int) = b at ll
  have II := Lib.hid ii; have LL := Lib.hid ll
  have hL : Calls Tryz.prog 32 #[.int .u64 (n : Int)] w fun e w' => e = .returned (.int .i64 b) ∧ w = w' := by
    clear ii ll hn hB
    go_enter Tryz.func32, Tryz.ntmps32
    (go_wp2_with fail); refine LL.out.mono ?_; rintro e w1 ⟨rfl, rfl⟩; (go_wp2_with fail)
    go_ret
    exact ⟨rfl, rfl⟩
  have HL := Lib.hid hL; clear ii ll hL hn hB LL
  go_enter Tryz.func94, Tryz.ntmps94
  (go_wp2_with fail); refine HL.out.mono ?_; rintro e w1 ⟨rfl, rfl⟩; (go_wp2_with fail); refine (II.out _).mono ?_; rintro e w1 ⟨rfl, hq⟩; (go_wp2_with fail)
  go_end0
  exact ⟨rfl, hq⟩
end Go.Proofs.YtmfnlapoefihkaaGreat
namespace Go.Proofs.YtmfnlapoefihkaaGreat
open Go.RowKit
namespace Hv
def mat (N : List Mk) (k : Nat) : Mk := N.getD k (0, 0, 0)
def ags (N : List Mk) : List Int := N.map fun a => ((a.1 : Nat) : Int)
theorem ags_take {N : List Mk} {k : Nat} (h : k < N.length) : ags (N.take (k + 1)) = ags (N.take k) ++ [(((mat N k).1 : Nat) : Int)] := by
  unfold ags mat
  rw [List.take_add_one, List.map_append]
  simp [h]
theorem ags_len (N : List Mk) (k : Nat) (h : k ≤ N.length) : (ags (N.take k)).length = k := by
  unfold ags
  simp [h]
theorem ags_cells (N : List Mk) : (ags N).map (Value.int .i64) = Hi.cells1 (N.map fun a => a.1) := by
  unfold ags Hi.cells1
  rw [List.map_map, List.map_map]
  rfl
end Hv
/-- What agentsOf gives. -/
def AgO (N : List Hv.Mk) (n : Nat) (w : World) (e : Ending) (w' : World) : Prop :=
  ∃ (g cap : Nat) (S : List Nat), e = .returned (.slice (some ⟨g, 0, none⟩) n cap) ∧ w.heap.size ≤ g ∧ S.Perm (N.map fun a => a.1) ∧ Hi.Inc S ∧ BK w' g (Hi.cells1 S) ∧ Below w.heap.size w w'
set_option linter.unusedSimpArgs false in
set_option maxHeartbeats 8000000 in
set_option maxRecDepth 100000 in
theorem hvagents_any (p o n cap : Nat) (N : List Hv.Mk) (w : World) (hN : N.length = n) (h1 : 1 ≤ n) (h6 : n ≤ 6)
    (hc : ∀ k, k < n → w.cell? ⟨p, o + k * 3, none⟩ = some (.int .i64 ((Hv.mat N k).1 : Nat)) ∧ w.cell? ⟨p, o + k * 3 + 1, none⟩ = some (.int .i64 (Hv.mat N k).2.1) ∧ w.cell? ⟨p, o + k * 3 + 2, none⟩ = some (.int .i64 (Hv.mat N k).2.2)) :
    Calls Tryz.prog 60 #[.slice (some ⟨p, o, none⟩) n cap] w (AgO N n w) := by
  obtain ⟨i0, hi0, hz0, hz1, hz2⟩ := info_parts intInfo; have HI := Lib.hid hi0; have HI2 := Lib.hid hz0; have HI3 := Lib.hid hz1; have HI4 := Lib.hid hz2; have HC := Lib.hid hc; have HNL := Lib.hid hN
  have st := fun g cp v (hb : BK v g (Hi.cells1 (N.map fun a => a.1))) => hisort_any g n cp (N.map fun a => a.1) v (by rw [List.length_map]; exact hN) h6 hb
  have ST := Lib.hid st; clear hi0 hz0 hz1 hz2 hc hN st
  unfold AgO
  go_enter Tryz.func60, Tryz.ntmps60
  go_wp2_with fail
  go_loopw [3, 8] (fun s i W => ∃ k : Nat, k ≤ n ∧ i = .int .i64 k ∧ Own W w.heap.size s (Hv.ags (N.take k)) ∧ Below w.heap.size w W) (fun _ i _ => n - (intOf i).toNat)
  case atStart => exact ⟨0, Nat.zero_le _, rfl, Own.nil_ _ _, Below.refl _ _⟩
  case round =>
    obtain ⟨k, hk, rfl, hO, hbb⟩ := hrel
    by_cases hlt : k < n
    · have i2 : (k : Int) < (n : Int) := by omega
      have HT := Lib.hid (Hv.ags_take (N := N) (k := k) (by have := HNL.out; omega)); obtain ⟨c0, c1, c2⟩ := HC.out k hlt; obtain ⟨a0, ea0⟩ : ∃ z, (((Hv.mat N k).1 : Nat) : Int) = z := ⟨_, rfl⟩; obtain ⟨a1, ea1⟩ : ∃ z, (Hv.mat N k).2.1 = z := ⟨_, rfl⟩; obtain ⟨a2, ea2⟩ : ∃ z, (Hv.mat N k).2.2 = z := ⟨_, rfl⟩; rw [ea0] at HT c0; rw [ea1] at c1; rw [ea2] at c2; replace c0 := keepC hbb c0; replace c1 := keepC hbb c1; replace c2 := keepC hbb c2; have hTl := Hv.ags_len N k (by have := HNL.out; omega); obtain ⟨T, hT⟩ : ∃ T, Hv.ags (N.take k) = T := ⟨_, rfl⟩; rw [hT] at hO hTl; have HT2 := Lib.hid hT; obtain ⟨nE, hE'⟩ : ∃ z, T.length = z := ⟨_, rfl⟩; have hE := Lib.hid hE'
      have hk6 : nE ≤ 6 := by omega
      unfold Own at hO
      rw [hE'] at hO; clear hT hTl hE' ea0 ea1 ea2
      go_upto_region 5 with fail
      refine at_worldQ (fun v => v.ownsRow w.heap.size 3 1 _ nE (T.map (Value.int .i64)) ∧ Below w.heap.size w v ∧ BK v wr.heap.size [.int .i64 a0, .int .i64 a1, .int .i64 a2]) ⟨World.ownsRow.alloc hO _, below_al hbb _, BK.new _ _ _⟩ (fun V5 hS => ?_); clear hO hbb c0 c1 c2; obtain ⟨hO, hbb, BM⟩ := hS; have m0 := BM.c 0 rfl; have hsz5 := hbb.size
      go_wp2_with (at_builtin; go_loud (refine wpList_append_lies _ rfl _ _ _ rfl w.heap.size 3 i0 _ 1 8 Tryz.underlying42 HI.out HI2.out HI3.out HI4.out rfl (by omega) _ nE (T.map (Value.int .i64)) (by rfl) (World.ownsRow.alloc hO _) ⟨V5.heap.size, 0, none⟩ 1 1 [.int .i64 a0] (by rfl) (by rfl) (World.news_of_block (cs := #[.int .i64 a0]) (t := 3) (fr := (0, 0)) (heap_alloc_new V5 _)) (by simp [Value.oneCell']) (by omega) (by unfold maxLen; omega) (by omega) (by simp; omega) (V5.heap.size + 1) (by simp) ?_); intro g cap w1 hown1 hgrow hat hglt)
      all_goals
        (try go_wp2_with fail)
        go_roundw
        case rel =>
          refine ⟨k + 1, by omega, by go_num, ?_, ?_⟩
          · rw [HT.out, HT2.out]
            unfold Own
            rw [List.length_append, hE.out, List.map_append]; exact hown1
          · exact (below_al hbb _).grown hgrow (by simp; omega) (fun j ej => by
              have := (World.ownsRow.lt hO j ej).1
              omega)
        case measure => (simp [intOf] <;> omega)
    · obtain rfl : k = n := by omega
      unfold Own at hO
      rw [Hv.ags_len N k (by have := HNL.out; omega), List.take_of_length_le (by have := HNL.out; omega), Hv.ags_cells] at hO; obtain ⟨g, cp, rfl, hg, hcap, hB⟩ := hvbk_rown hO (by omega)
      have i2 : ¬ (k : Int) < (k : Int) := by omega
      have hsb := hbb.size; have HS := Lib.hid (ST.out g cp _ hB); clear hO hB HI HI2 HI3 HI4; (go_wp2_with fail); refine HS.out.mono ?_; rintro e w1 ⟨rfl, S, hp, hi, hBS, hGS⟩; have HP := Lib.hid hp; have HIN := Lib.hid hi; have HBS := Lib.hid hBS; have hb2 := hGS.toBelow hbb (fun z hz => by omega) (by omega); clear hp hi hBS hGS hbb; (go_wp2_with fail)
      go_ret
      exact ⟨g, cp, S, rfl, hg, HP.out, HIN.out, HBS.out, hb2⟩
end Go.Proofs.YtmfnlapoefihkaaGreat
namespace Go.Proofs.YtmfnlapoefihkaaGreat
open Go.RowKit
theorem Hv.cmp_le {x y : Rat} (h : x ≤ y) : decide (Rp.cmpQ x y ≤ 0) = true := by
  unfold Rp.cmpQ
  have h2 : ¬ y < x := Rat.not_lt.2 h
  split
  · decide
  · first | decide | (rw [if_neg h2]; decide) | (split <;> first | decide | contradiction)
theorem hvfld1 (a b c d : Int) (v : World) : Sem.run Tryz.prog (Instr.field 53 (.agg #[.int .i64 a, .int .i64 b, .int .i64 c, .int .i64 d]) 1) v = .ok (.agg #[.int .i64 c, .int .i64 d]) v := by kernel_rfl
set_option linter.unusedSimpArgs false in
set_option maxHeartbeats 8000000 in
set_option maxRecDepth 100000 in
theorem hvpoint_any (A : Option Addr) (ca : Nat) (cs : List CkR) (Q : Option Addr) (m cq : Nat) (len n d : Int) (w : World) (h : IsCs w A cs) (h0 : 0 < cs.length) (hl : (Ak.cat cs 0).len = len) (l0 : 1 ≤ len) (l1 : len ≤ 1000) (hp : Rp.Ok n d) (hn : 0 ≤ n) (hle : Rp.q n d ≤ Rp.q len 1) :
    Calls Tryz.prog 88 #[.agg #[.slice A cs.length ca, .slice Q m cq], .agg #[.int .i64 n, .int .i64 d]] w fun e w' => e = .returned (.bool true) ∧ Below w.heap.size w w' := by
  have hp' := hp; obtain ⟨h1, h2, h3, h4, _⟩ := hp'
  have cb := fun w => check_any n d w (by omega) (by omega) (by omega) (by omega)
  rcases chk_cases n d with ⟨hk, hx⟩ | ⟨hk, hx⟩
  · rw [hk] at cb
    have e0 : (((0 : Int)) == 0) = true := rfl; have e1 : decide (0 ≤ n) = true := decide_eq_true hn; have hr := Hv.cmp_le hle
    have cp := fun w => hvcompare_any n d len 1 hp (Rp.Ok_one (by omega) (by omega)) w
    have wa := fun v (hv : Below w.heap.size w v) => hvall_any A ca cs Q m cq len v (h.keep hv) h0 hl
    generalize Rp.cmpQ (Rp.q n d) (Rp.q len 1) = R at *
    have CB := Lib.hid cb; have CP := Lib.hid cp; have WA := Lib.hid wa; have HR := Lib.hid hr; clear cb cp wa hr hk hx h hl hp hle h1 h2 h3 h4; have fl := hvfld1 0 1 len 1
    go_enter Tryz.func88, Tryz.ntmps88
    go_upto_region 1 with fail
    refine at_box2 (fun V hbb B0 B1 hVs => ?_); have p0 := B0.c 0 rfl; have p1 := B0.c 1 rfl; have n0 := B1.c 0 rfl; have n1 := B1.c 1 rfl; clear B0 B1; refine wp_region_noPanic ?_; refine wp_region_held_drew (S := (Below V.heap.size V)) (by kernel_rfl) ((Below.refl _ _).drew) (fun hHeld => ?_); refine at_anyH (Below V.heap.size V) hHeld (fun wt0 hNew => ?_); clear hHeld; have hHeld := hNew; clear hNew; refine tkm 0 rfl hHeld (fun w hSw => by have kp0 := keepC hSw p0; have kp1 := keepC hSw p1; have kn0 := keepC hSw n0; have kn1 := keepC hSw n1; go_simp <;> with_reducible rfl) ?_; (try simp only [PPz]); refine rdy1 1 rfl (fun K hK => ?_); go_simp; refine (CB.out _).mono ?_; rintro e wt2 ⟨rfl, hb3⟩; (go_wp2_with fail); refine hK.out _ _ (keepB hHeld hb3) (fun hNew => ?_); clear hb3; clear hHeld hK K; have hHeld := hNew; clear hNew; (try simp only [PPz]); refine tkd 2 rfl hHeld ?_; (try simp only [PPz]); refine tkd 3 rfl hHeld ?_; (try simp only [PPz]); refine tkd 4 rfl hHeld ?_; (try simp only [PPz]); refine tkm 5 rfl hHeld (fun w hSw => by have kp0 := keepC hSw p0; have kp1 := keepC hSw p1; have kn0 := keepC hSw n0; have kn1 := keepC hSw n1; go_simp <;> with_reducible rfl) ?_; (try simp only [PPz]); refine tkn 6 (.bool true) rfl ?_ hHeld ?_
    · (go_simp; first | done | exact congrArg (fun b => Result.ok (Next.value (Value.bool b)) w) e1 | (rw [e1]))
    (try simp only [PPz]); refine tkd 7 rfl hHeld ?_; (try simp only [PPz]); refine tkd 8 rfl hHeld ?_; (try simp only [PPz]); refine tkm 9 rfl hHeld (fun w hSw => by have kp0 := keepC hSw p0; have kp1 := keepC hSw p1; have kn0 := keepC hSw n0; have kn1 := keepC hSw n1; go_simp <;> with_reducible rfl) ?_; (try simp only [PPz]); refine tkm 10 rfl hHeld (fun w hSw => by have kp0 := keepC hSw p0; have kp1 := keepC hSw p1; have kn0 := keepC hSw n0; have kn1 := keepC hSw n1; go_simp <;> with_reducible rfl) ?_; (try simp only [PPz]); refine rdy1 11 rfl (fun K hK => ?_); go_simp; refine (WA.out _ (keepB hbb hHeld)).mono ?_; rintro e wt12 ⟨rfl, hb3⟩; (go_wp2_with fail); refine hK.out _ _ (keepB hHeld hb3) (fun hNew => ?_); clear hb3; clear hHeld hK K; have hHeld := hNew; clear hNew; (try simp only [PPz]); refine tkd 12 rfl hHeld ?_; (try simp only [PPz]); refine rdy1 13 rfl (fun K hK => ?_); go_simp; refine (CP.out _).mono ?_; rintro e wt14 ⟨rfl, hb3⟩; (go_wp2_with fail); refine hK.out _ _ (keepB hHeld hb3) (fun hNew => ?_); clear hb3; clear hHeld hK K; have hHeld := hNew; clear hNew; (try simp only [PPz]); refine tkd 14 rfl hHeld ?_; (try simp only [PPz]); refine tkd 15 rfl hHeld ?_; (try simp only [PPz]); refine tkd 16 rfl hHeld ?_; (try simp only [PPz]); refine wpAnyH_done (by kernel_rfl) ?_ _; refine NoPanic.normal ?_; (go_wp2_with fail)
    go_ret
    exact ⟨congrArg (fun b => Ending.returned (Value.bool b)) HR.out, keepB hbb hHeld⟩
  · exact absurd hp hx
set_option linter.unusedSimpArgs false in
set_option maxHeartbeats 8000000 in
set_option maxRecDepth 100000 in
theorem hvlies_any (A : Option Addr) (ca : Nat) (cs : List CkR) (Q : Option Addr) (m cq : Nat) (len a b c d : Int) (w : World) (h : IsCs w A cs) (h0 : 0 < cs.length) (hl : (Ak.cat cs 0).len = len) (l0 : 1 ≤ len) (l1 : len ≤ 1000) (hp : Rp.Ok a b) (ha : 0 ≤ a) (hq : Rp.Ok c d) (hc : 0 ≤ c) (hlt : Rp.q a b < Rp.q c d) (hle : Rp.q c d ≤ Rp.q len 1) :
    Calls Tryz.prog 57 #[.agg #[.slice A cs.length ca, .slice Q m cq], .agg #[.int .i64 a, .int .i64 b, .int .i64 c, .int .i64 d]] w fun e w' => e = .returned (.bool true) ∧ Below w.heap.size w w' := by
  have q1 := fun v (hv : Below w.heap.size w v) => hvpoint_any A ca cs Q m cq len a b v (h.keep hv) h0 hl l0 l1 hp ha (by grind)
  have q2 := fun v (hv : Below w.heap.size w v) => hvpoint_any A ca cs Q m cq len c d v (h.keep hv) h0 hl l0 l1 hq hc hle
  have cp := fun w => hvcompare_any a b c d hp hq w
  have hr := Rp.cmpQ_neg (Rp.q a b) (Rp.q c d); rw [decide_eq_true hlt] at hr
  generalize Rp.cmpQ (Rp.q a b) (Rp.q c d) = R at *
  have Q1 := Lib.hid q1; have Q2 := Lib.hid q2; have CP := Lib.hid cp; have HR := Lib.hid hr; clear q1 q2 cp hr h hl hp ha hq hc hlt hle
  go_enter Tryz.func57, Tryz.ntmps57
  go_upto_region 1 with fail
  refine at_box2 (fun V hbb B0 B1 hVs => ?_); have p0 := B0.c 0 rfl; have p1 := B0.c 1 rfl; have n0 := B1.c 0 rfl; have n1 := B1.c 1 rfl; (go_wp2_with fail); refine (Q1.out _ hbb).mono ?_; rintro e w1 ⟨rfl, hb⟩; clear p0 p1 n0 n1; replace hbb := keepB hbb hb; replace B0 := B0.keep hb; replace B1 := B1.keep hb; clear hb; have p0 := B0.c 0 rfl; have p1 := B0.c 1 rfl; have n2 := B1.c 2 rfl; have n3 := B1.c 3 rfl; (go_wp2_with fail); refine (Q2.out _ hbb).mono ?_; rintro e w2 ⟨rfl, hb⟩; clear p0 p1 n2 n3; replace hbb := keepB hbb hb; replace B1 := B1.keep hb; clear hb B0; have n0 := B1.c 0 rfl; have n1 := B1.c 1 rfl; have n2 := B1.c 2 rfl; have n3 := B1.c 3 rfl; (go_wp2_with fail); refine (CP.out _).mono ?_; rintro e w3 ⟨rfl, hb⟩; replace hbb := keepB hbb hb; clear hb n0 n1 n2 n3 B1; (go_wp2_with fail)
  go_ret
  exact ⟨congrArg (fun b => Ending.returned (Value.bool b)) HR.out, hbb⟩
set_option linter.unusedSimpArgs false in
set_option maxHeartbeats 8000000 in
set_option maxRecDepth 100000 in
theorem hvare_any (A : Option Addr) (nc ca : Nat) (Q : Option Addr) (m cq : Nat) (p n cap : Nat) (l : List Nat) (w : World) (hn : l.length = n) (h2 : 2 ≤ n) (h6 : n ≤ 6) (hi : l.Pairwise fun a b => a < b) (hlt : ∀ a ∈ l, a < nc) (hnc : nc ≤ 6) (hB : BK w p (Hi.cells1 l)) :
    Calls Tryz.prog 56 #[.agg #[.slice A nc ca, .slice Q m cq], .slice (some ⟨p, 0, none⟩) n cap] w fun e w' => e = .returned (.bool true) ∧ Below w.heap.size w w' := by
  have HN := Lib.hid hn; have HI := Lib.hid hi; have HL := Lib.hid hlt; clear hn hi hlt
  go_enter Tryz.func56, Tryz.ntmps56
  go_upto_region 1 with fail
  refine at_box1 (fun V hbb B0 hVs => ?_); have p0 := B0.c 0 rfl; replace hB := hB.keep hbb; have hV := Lib.hid hbb; clear hbb B0 hVs; (go_wp2_with fail)
  go_loopw [5, 10] (fun s i W => ∃ (k : Nat) (x : Nat), k ≤ n ∧ i = .int .i64 (k : Nat) ∧ s = .int .i64 (x : Nat) ∧ x ≤ 6 ∧ Hid (∀ y, l[k]? = some y → x ≤ y) ∧ W = V) (fun _ i _ => n - (intOf i).toNat)
  case atStart => exact ⟨0, 0, Nat.zero_le _, rfl, rfl, by omega, Lib.hid (fun y _ => Nat.zero_le _), rfl⟩
  case round =>
    obtain ⟨k, x, hk, rfl, rfl, hx6, hx, rfl⟩ := hrel
    by_cases hlt : k < n
    · have i1 : (k : Int) < (n : Int) := by omega
      obtain ⟨y, hy⟩ : ∃ y, l[k]? = some y := by
        have := HN.out; exact ⟨l[k], List.getElem?_eq_getElem (by omega)⟩
      have hxy := hx.out y hy; have hync := HL.out y (List.mem_of_getElem? hy); have hcy := hB.c k (x := .int .i64 (y : Nat)) (by unfold Hi.cells1; rw [List.getElem?_map, hy]; rfl)
      have i2 : ¬ (y : Int) < (x : Int) := by omega
      have i3 : ¬ (nc : Int) ≤ (y : Int) := by omega
      have i4 : IntKind.i64.wrap ((y : Int) + 1) = (y : Int) + 1 := IntWalk.i64_in _ (by omega); have HY := Lib.hid hy; clear hx hy hxy; (go_wp2_with fail)
      go_roundw
      case rel =>
        refine ⟨k + 1, y + 1, by omega, by go_num, by go_num, by omega, Lib.hid (fun z hz => ?_), (by trivial)⟩; have h1 := HI.out; rw [List.pairwise_iff_getElem] at h1; obtain ⟨ha, ea⟩ := List.getElem?_eq_some_iff.1 HY.out; obtain ⟨hb, eb⟩ := List.getElem?_eq_some_iff.1 hz; have := h1 k (k + 1) ha hb (by omega)
        omega
      case measure => (simp [intOf] <;> omega)
    · obtain rfl : k = n := by omega
      have i1 : ¬ (k : Int) < (k : Int) := by omega
      have i2 : (1 : Int) < (k : Int) := by omega
      go_wp2_with fail
      go_ret
      exact ⟨rfl, hV.out⟩
end Go.Proofs.YtmfnlapoefihkaaGreat

