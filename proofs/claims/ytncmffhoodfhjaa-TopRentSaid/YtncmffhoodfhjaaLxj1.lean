/- Worst of a valid lease; the fair and the calm lease beside it. -/
import Derived.Test.YtncmffhoodfhjaaLxj0
import Derived.Test.YtncmffhoodfhjaaLess
namespace Go.Proofs.Ytncmffhoodfhjaa
open Go.RowKit
theorem rent_worst (A : Option Addr) (cv : Nat) (V : List (List Int)) (T : Int) (B : Option Addr) (ca : Nat) (a : List Nat) (C : Option Addr) (cp : Nat) (ps : List Int) (D : Int) (v : World) (hl : V.length ≤ maxLen) (hv : IsM v A V) (h0 : As.vld V T (As.al a) ps D = 0) (hB : IsI v B (As.al a)) (hC : IsI v C ps) : Calls Try.prog 30 #[.agg #[.slice A V.length cv, .int .i64 T], .agg #[.slice B V.length ca, .slice C V.length cp, .int .i64 D]] v fun e w' => e = .returned (.tuple #[.agg #[.int .i64 (Rp.q (As.lsG V a ps D) D).num, .int .i64 ((Rp.q (As.lsG V a ps D) D).den : Int)], .agg #[.int .i64 (Rp.q (As.gtG V a ps D) D).num, .int .i64 ((Rp.q (As.gtG V a ps D) D).den : Int)], .int .i64 0]) ∧ Below v.heap.size v w' := by
  obtain ⟨a', ha', hL⟩ := ls_of h0 hv hB hC
  have e := congrArg List.length ha'
  rw [As.al_len, As.al_len, hL.la] at e
  have lx : (As.al a).length = V.length := by rw [As.al_len]; exact e
  have lp := hL.le.len
  have c := rtWorst_any A cv V T B ca (As.al a) C cp ps D v hl hv (by rw [lx]; exact hl) hB (by rw [lp]; exact hl) hC
  rw [lx, lp] at c
  unfold wsV As.wsS at c
  rw [if_pos h0, As.toNat_al] at c
  exact c
/-- Less of two ratios that are reduced. -/
theorem rless_q {a n c d : Int} (h1 : 1 ≤ n) (h2 : n ≤ 1000) (a0 : -1000000000000 ≤ a) (a1 : a ≤ 1000000000000) (k1 : 1 ≤ d) (k2 : d ≤ 1000) (c0 : -1000000000000 ≤ c) (c1 : c ≤ 1000000000000) (h : c * n ≤ a * d) (w : World) :
    Calls Try.prog 21 #[.agg #[.int .i64 (Rp.q a n).num, .int .i64 ((Rp.q a n).den : Int)], .agg #[.int .i64 (Rp.q c d).num, .int .i64 ((Rp.q c d).den : Int)]] w fun e w' => e = .returned (.bool false) ∧ Below w.heap.size w w' := by
  have k := Less_any (Rp.q a n).num ((Rp.q a n).den : Int) (Rp.q c d).num ((Rp.q c d).den : Int) (Rp.q_ok h1 (by omega) (by omega) (by omega)) (Rp.q_ok k1 (by omega) (by omega) (by omega)) w
  rw [Rp.q_self, Rp.q_self, Rp.q_nlt h1 k1 h] at k
  exact k
end Go.Proofs.Ytncmffhoodfhjaa
