/- What another rent moves. -/
import Derived.Test.YtpiolhjiflohgaaLwq
import Derived.Test.YtpiolhjiflohgaaLwp
import Derived.Test.YtpiolhjiflohgaaRadda
import Derived.Test.YtpiolhjiflohgaaYc
namespace Go.Proofs.Ytpiolhjiflohgaa
open Go.RowKit
namespace As
theorem rd_q {V : List (List Int)} {R : Int} (ok : Ok V) (r0 : 0 ≤ R) (r1 : R ≤ 10000000) {j : Nat} (hj : j < V.length) :
    Le14 V.length R (bst V) (rdp V.length (evp V (bst V) R)) (rdd V.length (evp V (bst V) R)) ∧ Rp.q (el (rdp V.length (evp V (bst V) R)) j) (rdd V.length (evp V (bst V) R)) = Rp.q (evp V (bst V) R j) V.length := by
  have ht := bst_top ok
  have n1 := ok.n1
  obtain ⟨le, _, g, g1, e1, e2⟩ := rd_ok (p := evp V (bst V) R) n1 ok.n6 ht.perm (evp_cont ht R) (evp_sum V _ R) (fun k hk => by
    have := evp_bd ht (by omega) ok.bd r0 r1 hk
    omega)
  refine ⟨le, ?_⟩
  have hd := le.d1
  have := Rp.q_scale (a := el (rdp V.length (evp V (bst V) R)) j) (n := rdd V.length (evp V (bst V) R)) (g := (g : Int)) (by omega) (by omega)
  rw [e1, e2 j hj] at this
  exact this.symm
/-- The sums of what is moved by another rent. -/
theorem rent_add {V : List (List Int)} {R S : Int} (ok : Ok V) (r0 : 0 ≤ R) (r1 : R ≤ 10000000) (s0 : 0 ≤ S) (s1 : S ≤ 10000000) {j : Nat} (hj : j < V.length) :
    Rp.makeS (S - R) V.length = ((Rp.q (S - R) V.length).num, ((Rp.q (S - R) V.length).den : Int), 0) ∧
    Rp.addS (Rp.q (lowN V (bst V) R j) V.length).num (Rp.q (lowN V (bst V) R j) V.length).den (Rp.q (S - R) V.length).num (Rp.q (S - R) V.length).den = ((Rp.q (lowN V (bst V) S j) V.length).num, ((Rp.q (lowN V (bst V) S j) V.length).den : Int), 0) ∧
    Rp.addS (Rp.q (highN V (bst V) R j) V.length).num (Rp.q (highN V (bst V) R j) V.length).den (Rp.q (S - R) V.length).num (Rp.q (S - R) V.length).den = ((Rp.q (highN V (bst V) S j) V.length).num, ((Rp.q (highN V (bst V) S j) V.length).den : Int), 0) ∧
    Rp.makeS (el (rdp V.length (evp V (bst V) R)) j) (rdd V.length (evp V (bst V) R)) = ((Rp.q (evp V (bst V) R j) V.length).num, ((Rp.q (evp V (bst V) R j) V.length).den : Int), 0) ∧
    Rp.makeS (el (rdp V.length (evp V (bst V) S)) j) (rdd V.length (evp V (bst V) S)) = ((Rp.q (evp V (bst V) S j) V.length).num, ((Rp.q (evp V (bst V) S j) V.length).den : Int), 0) ∧
    Rp.addS (Rp.q (evp V (bst V) R j) V.length).num (Rp.q (evp V (bst V) R j) V.length).den (Rp.q (S - R) V.length).num (Rp.q (S - R) V.length).den = ((Rp.q (evp V (bst V) S j) V.length).num, ((Rp.q (evp V (bst V) S j) V.length).den : Int), 0) := by
  have n1 := ok.n1
  have n6 := ok.n6
  have h1 := sum6 (f := fun i => lkm V (bst V) i j) (fun i => lkm_b6 ok _ _ _) (k := V.length) n6
  have h2 := sum6 (f := fun i => lkm V (bst V) j i) (fun i => lkm_b6 ok _ _ _) (k := V.length) n6
  have hlo : lowN V (bst V) R j = R + sm (fun i => lkm V (bst V) i j) (List.range V.length) := rfl
  have hhi : highN V (bst V) R j = R - sm (fun i => lkm V (bst V) j i) (List.range V.length) := rfl
  have h3 := evp_bd (bst_top ok) (by omega) ok.bd r0 r1 hj
  obtain ⟨leR, qR⟩ := rd_q ok r0 r1 hj
  obtain ⟨leS, qS⟩ := rd_q ok s0 s1 hj
  have pR := leR.pb j hj
  have pS := leS.pb j hj
  have dR := leR.d1
  have dR6 := leR.d60
  have dS := leS.d1
  have dS6 := leS.d60
  rw [low_rent V (bst V) R S j, high_rent V (bst V) R S j, evp_rent V (bst V) R S j]
  refine ⟨Rp.makeS_q (by omega) (by omega) (by omega) (by omega), Rp.add_same (by omega) (by omega) (by omega) (by omega) (by omega) (by omega), Rp.add_same (by omega) (by omega) (by omega) (by omega) (by omega) (by omega), ?_, ?_, Rp.add_same (by omega) (by omega) (by omega) (by omega) (by omega) (by omega)⟩
  · rw [Rp.makeS_q (by omega) (by omega) (by omega) (by omega), qR]
  · rw [Rp.makeS_q (by omega) (by omega) (by omega) (by omega), qS, evp_rent V (bst V) R S j]
end As
end Go.Proofs.Ytpiolhjiflohgaa
