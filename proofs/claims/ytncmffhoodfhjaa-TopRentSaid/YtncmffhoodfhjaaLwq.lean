/- The reference's Free; what the even lease is; what RoomFree asks. -/
import Derived.Test.YtncmffhoodfhjaaYm
import Derived.Test.YtncmffhoodfhjaaYl
import Derived.Test.YtncmffhoodfhjaaYp
namespace Go.Proofs.Ytncmffhoodfhjaa
open Go.RowKit
namespace As
theorem even_vld {V : List (List Int)} {R : Int} (h0 : rchk V R = 0) : vld V R (al (evA V R)) (evP V R) (evD V R) = 0 ∧ enS V R (al (evA V R)) (evP V R) (evD V R) = [] := by
  rcases rchk_two V R with ⟨_, hc, r0, r1⟩ | ⟨_, h2⟩
  · have ok := chk_ok hc
    have ht := bst_top ok
    obtain ⟨k1, k2⟩ := even_ok ok ht r0 r1
    have hv : vld V R (al (evA V R)) (evP V R) (evD V R) = 0 := by
      unfold vld evA evP evD
      rw [if_pos h0, if_pos h0, if_pos h0, if_pos h0, if_pos (leB_iff.2 ⟨_, rfl, k1⟩)]
    refine ⟨hv, ?_⟩
    rw [enS_yes hv]
    unfold evA evP evD
    rw [if_pos h0, if_pos h0, if_pos h0]
    exact (envl_nil ht.perm).2 k2
  · exact absurd h0 h2
end As
set_option maxHeartbeats 2000000 in
theorem r14Free_any (A : Option Addr) (cv : Nat) (V : List (List Int)) (R : Int) (B : Option Addr) (ca : Nat) (xs : List Int) (C : Option Addr) (cp : Nat) (ps : List Int) (D : Int) (w : World) (hl : V.length ≤ maxLen) (h : IsM w A V) (hx : xs.length ≤ maxLen) (hB : IsI w B xs) (hC : IsI w C ps) (h0 : As.vld V R xs ps D = 0) :
    Calls Try.prog 19 #[.agg #[.slice A V.length cv, .int .i64 R], .agg #[.slice B xs.length ca, .slice C ps.length cp, .int .i64 D]] w fun e w' => e = .returned (.bool (decide (As.enS V R xs ps D = []))) ∧ Below w.heap.size w w' := by
  have CV := Lib.hid (fun v (hv : Below w.heap.size w v) => r14Envies_any A cv V R B ca xs C cp ps D v hl (h.keep hv) hx (hB.keep hv) (hC.keep hv))
  have HZ := Lib.hid (show (((As.enS V R xs ps D).length : Int) == 0) = decide (As.enS V R xs ps D = []) by rw [Bool.eq_iff_iff, beq_iff_eq, decide_eq_true_eq, ← List.length_eq_zero_iff]; omega)
  rw [← HZ.out]
  clear HZ h hB hC
  unfold EnQ at CV
  rw [h0] at CV
  generalize As.enS V R xs ps D = l at *
  have hbb := Below.refl w.heap.size w
  go_enter Try.func19, Try.ntmps19
  go_wp2_with fail
  refine (CV.out _ (by first | exact hbb | exact below_al (below_al hbb _) _)).mono ?_
  rintro e w1 ⟨X, c, rfl, hX, hb⟩
  have hb1 : Below w.heap.size w w1 := (by first | exact keepB hbb hb | exact keepB (below_al (below_al hbb _) _) hb)
  clear hb hbb CV hX
  go_wp2_with fail
  all_goals
    go_wp2_with fail
    go_ret
    exact ⟨rfl, hb1⟩
end Go.Proofs.Ytncmffhoodfhjaa
