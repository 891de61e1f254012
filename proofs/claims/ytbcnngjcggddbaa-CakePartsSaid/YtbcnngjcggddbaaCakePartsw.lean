/- The walk of the law CakeParts: it answers true for any cake and any two points. -/
import Derived.Test.YtbcnngjcggddbaaRpart
import Derived.Test.YtbcnngjcggddbaaPart
import Derived.Test.YtbcnngjcggddbaaTwin
namespace Go.Proofs.Ytbcnngjcggddbaa
open Go.RowKit
theorem Ck.nC_bd {c d : List Int} (h : ∀ k, I64 (Ck.at_ c k)) : ∀ k, ∀ x ∈ Ck.nC c d k, I64 x
  | 0, x, hx => by simp [Ck.nC] at hx
  | k + 1, x, hx => by
    have ih := Ck.nC_bd (d := d) h k
    unfold Ck.nC at hx
    split at hx
    · rcases List.mem_append.1 hx with hx | hx
      · exact ih x hx
      · have : x = Ck.at_ c k := by simpa using hx
        subst this
        exact h k
    · exact ih x hx
theorem Ck.nD_bd {d : List Int} (h : ∀ k, I64 (Ck.at_ d k)) : ∀ k, ∀ x ∈ Ck.nD d k, I64 x
  | 0, x, hx => by simp [Ck.nD] at hx
  | k + 1, x, hx => by
    have ih := Ck.nD_bd h k
    unfold Ck.nD at hx
    split at hx
    · rcases List.mem_append.1 hx with hx | hx
      · exact ih x hx
      · have : x = Ck.at_ d k := by simpa using hx
        subst this
        exact h k
    · exact ih x hx
/-- A cake (length, cuts, densities) of numbers, and not long. -/
def Ck.Fine (r : Int × List Int × List Int × Int) : Prop := I64 r.1 ∧ r.2.1.length ≤ 61 ∧ r.2.2.1.length ≤ 61 ∧ (∀ x ∈ r.2.1, I64 x) ∧ ∀ x ∈ r.2.2.1, I64 x
theorem Ck.fine0 (e : Int) : Ck.Fine (0, [], [], e) := ⟨(⟨by decide, by decide⟩ : I64 0), Nat.zero_le _, Nat.zero_le _, by simp, by simp⟩
theorem Ck.norS_fine {len : Int} {c d : List Int} (hl : I64 len) (hc : ∀ k, I64 (Ck.at_ c k)) (hd : ∀ k, I64 (Ck.at_ d k)) (hn : d.length ≤ 60) : Ck.Fine (Ck.norS len c d) := by
  unfold Ck.norS
  split
  · refine ⟨hl, ?_, ?_, fun x hx => ?_, Ck.nD_bd hd d.length⟩
    · have := Ck.nC_len c d d.length
      show (Ck.nC c d d.length ++ [len]).length ≤ 61
      rw [List.length_append]
      show _ + 1 ≤ 61
      omega
    · have := Ck.nD_len d d.length
      show (Ck.nD d d.length).length ≤ 61
      omega
    · rcases List.mem_append.1 hx with hx | hx
      · exact Ck.nC_bd hc d.length x hx
      · have : x = len := by simpa using hx
        subst this
        exact hl
  · exact Ck.fine0 _
theorem Ck.parS_fine {len : Int} {c d : List Int} {a b : Int} (hd : ∀ k, I64 (Ck.at_ d k)) (hn : d.length ≤ 60) : Ck.Fine (Ck.parS len c d a b) := by
  unfold Ck.parS
  split
  · rename_i hc
    have hG := Ck.chk_good hc
    split
    · exact Ck.fine0 _
    · rename_i hw
      have h1 : 0 ≤ a ∧ a < b ∧ b ≤ len := by omega
      split
      · have := hG.len1
        refine ⟨⟨?_, ?_⟩, ?_, ?_, Ck.pC_bd hG h1.1 h1.2.1 h1.2.2 d.length (Nat.le_refl _), Ck.pD_bd hd d.length⟩
        · show -9223372036854775808 ≤ b - a
          omega
        · show b - a ≤ 9223372036854775807
          omega
        · have := Ck.pC_len c a b d.length
          show (Ck.pC c a b d.length).length ≤ 61
          omega
        · have := Ck.pD_len c d a b d.length
          show (Ck.pD c d a b d.length).length ≤ 61
          omega
      · exact Ck.fine0 _
  · exact Ck.fine0 _
theorem Ck.same_refl (l : Int) (xs ys : List Int) : Ck.same l xs ys l xs ys = true := by simp [Ck.same]
theorem same_own {V : World} {B : Nat} {L : Int} {xs ys : List Int} {A A' D D' : Option Addr} {p p' q q' : Nat} (h1 : I64 L) (h2 : xs.length ≤ 61) (h3 : ys.length ≤ 61) (h4 : ∀ x ∈ xs, I64 x) (h5 : ∀ x ∈ ys, I64 x)
    (o1 : Own V B (.slice A xs.length p) xs) (o2 : Own V B (.slice D ys.length q) ys) (o3 : Own V B (.slice A' xs.length p') xs) (o4 : Own V B (.slice D' ys.length q') ys) :
    ∀ v, Below V.heap.size V v → Calls Try.prog 22 #[.agg #[.int .i64 L, .slice A xs.length p, .slice D ys.length q], .agg #[.int .i64 L, .slice A' xs.length p', .slice D' ys.length q']] v fun e w' => e = .returned (.bool true) ∧ Below v.heap.size v w' := by
  intro v hv
  have hm : xs.length ≤ maxLen ∧ ys.length ≤ maxLen := by unfold maxLen; omega
  have c1 : IsCake V L A xs D ys := ⟨h1, hm, o1.isI h4, o2.isI h5⟩
  have c2 : IsCake V L A' xs D' ys := ⟨h1, hm, o3.isI h4, o4.isI h5⟩
  have := rckSame_any L A xs p D ys q L A' xs p' D' ys q' v (c1.keep hv) (c2.keep hv)
  rw [Ck.same_refl] at this
  exact this
theorem same_twin (len : Int) (K : Option Addr) (cuts : List Int) (ck : Nat) (Z : Option Addr) (dens : List Int) (cz : Nat) (A1 : Option Addr) (p1 : Nat) (A2 : Option Addr) (p2 : Nat) (U : World) (h : IsCake U len K cuts Z dens) (i1 : IsI U A1 cuts) (i2 : IsI U A2 dens) :
    ∀ v, Below U.heap.size U v → Calls Try.prog 22 #[.agg #[.int .i64 len, .slice K cuts.length ck, .slice Z dens.length cz], .agg #[.int .i64 len, .slice A1 cuts.length p1, .slice A2 dens.length p2]] v fun e w' => e = .returned (.bool true) ∧ Below v.heap.size v w' := by
  intro v hv
  have c2 : IsCake U len A1 cuts A2 dens := ⟨h.1, h.2.1, i1, i2⟩
  have := rckSame_any len K cuts ck Z dens cz len A1 cuts p1 A2 dens p2 v (h.keep hv) (c2.keep hv)
  rw [Ck.same_refl] at this
  exact this
/-- The block of an own slice that is not empty. -/
theorem Own.blk {w : World} {B n cap : Nat} {A : Option Addr} {xs : List Int} (h : Own w B (.slice A n cap) xs) (h0 : 0 < xs.length) : ∃ g, A = some ⟨g, 0, none⟩ := by
  obtain ⟨g, cap', hv, _, _⟩ := World.ownsRow.form h h0
  simp only [Value.slice.injEq] at hv
  exact ⟨g, hv.1⟩

set_option maxHeartbeats 8000000 in
set_option maxRecDepth 100000 in
theorem parts_same (len : Int) (K : Option Addr) (cuts : List Int) (ck : Nat) (Z : Option Addr) (dens : List Int) (cz : Nat) (a b : Int) (w : World) (h : IsCake w len K cuts Z dens) (NL NE PL PE : Int) (NC ND PC PD : List Int)
    (N1 : I64 NL) (N2 : NC.length ≤ 61) (N3 : ND.length ≤ 61) (N4 : ∀ x ∈ NC, I64 x) (N5 : ∀ x ∈ ND, I64 x) (P1 : I64 PL) (P2 : PC.length ≤ 61) (P3 : PD.length ≤ 61) (P4 : ∀ x ∈ PC, I64 x) (P5 : ∀ x ∈ PD, I64 x)
    (c0 : ∀ v, Calls Try.prog 26 #[.agg #[.int .i64 len, .slice K cuts.length ck, .slice Z dens.length cz]] v fun e w' => e = .returned (.bool false) ∧ Below v.heap.size v w')
    (c1 : ∀ v, Below w.heap.size w v → Calls Try.prog 31 #[.agg #[.int .i64 len, .slice K cuts.length ck, .slice Z dens.length cz]] v fun e w' => ∃ A1 p1 A2 p2, e = .returned (.agg #[.int .i64 len, .slice A1 cuts.length p1, .slice A2 dens.length p2]) ∧ IsI w' A1 cuts ∧ IsI w' A2 dens ∧ Below v.heap.size v w')
    (c2 : ∀ v, Below w.heap.size w v → Calls Try.prog 19 #[.agg #[.int .i64 len, .slice K cuts.length ck, .slice Z dens.length cz]] v fun e w' => ∃ A p B q, e = .returned (.tuple #[.agg #[.int .i64 NL, .slice A NC.length p, .slice B ND.length q], .int .i64 NE]) ∧ Own w' v.heap.size (.slice A NC.length p) NC ∧ Own w' v.heap.size (.slice B ND.length q) ND ∧ (∀ g, (Value.slice A NC.length p).ownBlock = some g → (Value.slice B ND.length q).ownBlock ≠ some g) ∧ Below v.heap.size v w')
    (c3 : ∀ v, Below w.heap.size w v → Calls Try.prog 32 #[.agg #[.int .i64 len, .slice K cuts.length ck, .slice Z dens.length cz]] v fun e w' => ∃ A p B q, e = .returned (.tuple #[.agg #[.int .i64 NL, .slice A NC.length p, .slice B ND.length q], .int .i64 NE]) ∧ Own w' v.heap.size (.slice A NC.length p) NC ∧ Own w' v.heap.size (.slice B ND.length q) ND ∧ (∀ g, (Value.slice A NC.length p).ownBlock = some g → (Value.slice B ND.length q).ownBlock ≠ some g) ∧ Below v.heap.size v w')
    (c4 : ∀ v, Below w.heap.size w v → Calls Try.prog 18 #[.agg #[.int .i64 len, .slice K cuts.length ck, .slice Z dens.length cz], .int .i64 a, .int .i64 b] v fun e w' => ∃ A p B q, e = .returned (.tuple #[.agg #[.int .i64 PL, .slice A PC.length p, .slice B PD.length q], .int .i64 PE]) ∧ Own w' v.heap.size (.slice A PC.length p) PC ∧ Own w' v.heap.size (.slice B PD.length q) PD ∧ (∀ g, (Value.slice A PC.length p).ownBlock = some g → (Value.slice B PD.length q).ownBlock ≠ some g) ∧ Below v.heap.size v w')
    (c5 : ∀ v, Below w.heap.size w v → Calls Try.prog 33 #[.agg #[.int .i64 len, .slice K cuts.length ck, .slice Z dens.length cz], .int .i64 a, .int .i64 b] v fun e w' => ∃ A p B q, e = .returned (.tuple #[.agg #[.int .i64 PL, .slice A PC.length p, .slice B PD.length q], .int .i64 PE]) ∧ Own w' v.heap.size (.slice A PC.length p) PC ∧ Own w' v.heap.size (.slice B PD.length q) PD ∧ (∀ g, (Value.slice A PC.length p).ownBlock = some g → (Value.slice B PD.length q).ownBlock ≠ some g) ∧ Below v.heap.size v w') :
    Calls Try.prog 5 #[.agg #[.int .i64 len, .slice K cuts.length ck, .slice Z dens.length cz], .int .i64 a, .int .i64 b] w fun e w' => e = .returned (.bool true) ∧ Below w.heap.size w w' := by
  have C0 := Lib.hid c0
  have C1 := Lib.hid c1
  have C2 := Lib.hid c2
  have C3 := Lib.hid c3
  have C4 := Lib.hid c4
  have C5 := Lib.hid c5
  have n1 : (NE != NE) = false := by simp
  have n2 : (PE != PE) = false := by simp
  clear c0 c1 c2 c3 c4 c5
  go_enter Try.func5, Try.ntmps5
  go_wp2_with fail
  refine (C0.out _).mono ?_
  rintro e w1 ⟨rfl, hb⟩
  have x0 : w1.cell? ⟨w.heap.size, 0, none⟩ = some (.int .i64 len) := keepC hb (by go_simp)
  have x1 : w1.cell? ⟨w.heap.size, 1, none⟩ = some (.slice K cuts.length ck) := keepC hb (by go_simp)
  have x2 : w1.cell? ⟨w.heap.size, 2, none⟩ = some (.slice Z dens.length cz) := keepC hb (by go_simp)
  have hbb : Below w.heap.size w w1 := keepB ((Below.refl _ _).alloc (Nat.le_refl _) _) hb
  clear hb C0
  go_wp2_with fail
  refine (C1.out _ hbb).mono ?_
  rintro e w2 ⟨A1, p1, A2, p2, rfl, i1, i2, hb⟩
  replace x0 := keepC hb x0
  replace x1 := keepC hb x1
  replace x2 := keepC hb x2
  replace hbb := keepB hbb hb
  clear hb C1
  have l1 := lt_of_cell x0
  go_wp2_with fail
  refine at_worldR (fun v => Below w.heap.size w v ∧ v.cell? ⟨w.heap.size, 0, none⟩ = some (.int .i64 len) ∧ v.cell? ⟨w.heap.size, 1, none⟩ = some (.slice K cuts.length ck) ∧ v.cell? ⟨w.heap.size, 2, none⟩ = some (.slice Z dens.length cz) ∧ v.cell? ⟨w2.heap.size, 0, none⟩ = some (.int .i64 len) ∧ v.cell? ⟨w2.heap.size, 1, none⟩ = some (.slice A1 cuts.length p1) ∧ v.cell? ⟨w2.heap.size, 2, none⟩ = some (.slice A2 dens.length p2) ∧ IsI v A1 cuts ∧ IsI v A2 dens) ⟨below_al hbb _, cell_alloc x0 _, cell_alloc x1 _, cell_alloc x2 _, new0 _ _ _ _ _, new1 _ _ _ _ _, new2 _ _ _ _ _, i1.keep (below_al (Below.refl _ _) _), i2.keep (below_al (Below.refl _ _) _)⟩ (fun U hS => ?_)
  clear hbb x0 x1 x2 i1 i2 l1
  obtain ⟨hbU, x0, x1, x2, y0, y1, y2, i1, i2⟩ := hS
  have QC := Lib.hid (h.keep hbU)
  have C8 := Lib.hid (same_twin len K cuts ck Z dens cz A1 p1 A2 p2 U QC.out i1 i2)
  have QX := Lib.hid (fun v (hv : Below U.heap.size U v) => And.intro (keepC hv x0) (And.intro (keepC hv x1) (keepC hv x2)))
  have QY := Lib.hid (fun v (hv : Below U.heap.size U v) => And.intro (keepC hv y0) (And.intro (keepC hv y1) (keepC hv y2)))
  have ly := lt_of_cell y0
  clear y0 y1 y2 i1 i2 QC h
  refine (C2.out _ hbU).mono ?_
  rintro e w3 ⟨A3, p3, A4, p4, rfl, o3, o4, -, hu⟩
  replace x0 := keepC hu x0
  replace x1 := keepC hu x1
  replace x2 := keepC hu x2
  have HG3 := Lib.hid o3.lt
  have l1 := lt_of_cell x0
  go_wp2_with fail
  refine at_worldR (fun v => Below U.heap.size U v ∧ v.cell? ⟨w.heap.size, 0, none⟩ = some (.int .i64 len) ∧ v.cell? ⟨w.heap.size, 1, none⟩ = some (.slice K cuts.length ck) ∧ v.cell? ⟨w.heap.size, 2, none⟩ = some (.slice Z dens.length cz) ∧ v.cell? ⟨w3.heap.size, 0, none⟩ = some (.int .i64 NL) ∧ v.cell? ⟨w3.heap.size, 1, none⟩ = some (.slice A3 NC.length p3) ∧ v.cell? ⟨w3.heap.size, 2, none⟩ = some (.slice A4 ND.length p4) ∧ Own v U.heap.size (.slice A3 NC.length p3) NC ∧ Own v U.heap.size (.slice A4 ND.length p4) ND) ⟨below_al hu _, cell_alloc x0 _, cell_alloc x1 _, cell_alloc x2 _, new0 _ _ _ _ _, new1 _ _ _ _ _, new2 _ _ _ _ _, o3.keepB (below_al (Below.refl _ _) _), o4.keepB (below_al (Below.refl _ _) _)⟩ (fun V1 hS => ?_)
  clear hu x0 x1 x2 o3 o4 l1
  obtain ⟨hu, x0, x1, x2, a0, a1, a2, o3, o4⟩ := hS
  refine (C3.out _ (keepB hbU hu)).mono ?_
  rintro e w4 ⟨A5, p5, A6, p6, rfl, o5, o6, -, hb⟩
  replace x0 := keepC hb x0
  replace x1 := keepC hb x1
  replace x2 := keepC hb x2
  replace a0 := keepC hb a0
  replace a1 := keepC hb a1
  replace a2 := keepC hb a2
  replace o3 := o3.keepB hb
  replace o4 := o4.keepB hb
  replace o5 := o5.mono hu.size
  replace o6 := o6.mono hu.size
  replace hu := keepB hu hb
  clear hb C2 C3
  have l1 := lt_of_cell x0
  have l2 := lt_of_cell a0
  go_wp2_with fail
  refine at_worldR (fun v => Below U.heap.size U v ∧ v.cell? ⟨w.heap.size, 0, none⟩ = some (.int .i64 len) ∧ v.cell? ⟨w.heap.size, 1, none⟩ = some (.slice K cuts.length ck) ∧ v.cell? ⟨w.heap.size, 2, none⟩ = some (.slice Z dens.length cz) ∧ v.cell? ⟨w3.heap.size, 0, none⟩ = some (.int .i64 NL) ∧ v.cell? ⟨w3.heap.size, 1, none⟩ = some (.slice A3 NC.length p3) ∧ v.cell? ⟨w3.heap.size, 2, none⟩ = some (.slice A4 ND.length p4) ∧ v.cell? ⟨w4.heap.size, 0, none⟩ = some (.int .i64 NL) ∧ v.cell? ⟨w4.heap.size, 1, none⟩ = some (.slice A5 NC.length p5) ∧ v.cell? ⟨w4.heap.size, 2, none⟩ = some (.slice A6 ND.length p6) ∧ Own v U.heap.size (.slice A3 NC.length p3) NC ∧ Own v U.heap.size (.slice A4 ND.length p4) ND ∧ Own v U.heap.size (.slice A5 NC.length p5) NC ∧ Own v U.heap.size (.slice A6 ND.length p6) ND) ⟨below_al hu _, cell_alloc x0 _, cell_alloc x1 _, cell_alloc x2 _, cell_alloc a0 _, cell_alloc a1 _, cell_alloc a2 _, new0 _ _ _ _ _, new1 _ _ _ _ _, new2 _ _ _ _ _, o3.keepB (below_al (Below.refl _ _) _), o4.keepB (below_al (Below.refl _ _) _), o5.keepB (below_al (Below.refl _ _) _), o6.keepB (below_al (Below.refl _ _) _)⟩ (fun V2 hS => ?_)
  clear hu x0 x1 x2 a0 a1 a2 o3 o4 o5 o6 l1 l2
  obtain ⟨hu, x0, x1, x2, a0, a1, a2, b0, b1, b2, o3, o4, o5, o6⟩ := hS
  refine (C4.out _ (keepB hbU hu)).mono ?_
  rintro e w5 ⟨A7, p7, A8, p8, rfl, o7, o8, -, hb⟩
  have la := lt_of_cell a0
  have HG8 := Lib.hid (fun g e => And.intro (Nat.lt_of_lt_of_le la (o8.lt g e).1) (o8.lt g e).2)
  replace x0 := keepC hb x0
  replace x1 := keepC hb x1
  replace x2 := keepC hb x2
  replace a0 := keepC hb a0
  replace a1 := keepC hb a1
  replace a2 := keepC hb a2
  replace b0 := keepC hb b0
  replace b1 := keepC hb b1
  replace b2 := keepC hb b2
  replace o3 := o3.keepB hb
  replace o4 := o4.keepB hb
  replace o5 := o5.keepB hb
  replace o6 := o6.keepB hb
  replace o7 := o7.mono hu.size
  replace o8 := o8.mono hu.size
  replace hu := keepB hu hb
  clear hb la
  have l1 := lt_of_cell x0
  have l2 := lt_of_cell a0
  have l3 := lt_of_cell b0
  go_wp2_with fail
  refine at_worldR (fun v => Below U.heap.size U v ∧ v.cell? ⟨w.heap.size, 0, none⟩ = some (.int .i64 len) ∧ v.cell? ⟨w.heap.size, 1, none⟩ = some (.slice K cuts.length ck) ∧ v.cell? ⟨w.heap.size, 2, none⟩ = some (.slice Z dens.length cz) ∧ v.cell? ⟨w3.heap.size, 0, none⟩ = some (.int .i64 NL) ∧ v.cell? ⟨w3.heap.size, 1, none⟩ = some (.slice A3 NC.length p3) ∧ v.cell? ⟨w3.heap.size, 2, none⟩ = some (.slice A4 ND.length p4) ∧ v.cell? ⟨w4.heap.size, 0, none⟩ = some (.int .i64 NL) ∧ v.cell? ⟨w4.heap.size, 1, none⟩ = some (.slice A5 NC.length p5) ∧ v.cell? ⟨w4.heap.size, 2, none⟩ = some (.slice A6 ND.length p6) ∧ v.cell? ⟨w5.heap.size, 0, none⟩ = some (.int .i64 PL) ∧ v.cell? ⟨w5.heap.size, 1, none⟩ = some (.slice A7 PC.length p7) ∧ v.cell? ⟨w5.heap.size, 2, none⟩ = some (.slice A8 PD.length p8) ∧ Own v U.heap.size (.slice A3 NC.length p3) NC ∧ Own v U.heap.size (.slice A4 ND.length p4) ND ∧ Own v U.heap.size (.slice A5 NC.length p5) NC ∧ Own v U.heap.size (.slice A6 ND.length p6) ND ∧ Own v U.heap.size (.slice A7 PC.length p7) PC ∧ Own v U.heap.size (.slice A8 PD.length p8) PD) ⟨below_al hu _, cell_alloc x0 _, cell_alloc x1 _, cell_alloc x2 _, cell_alloc a0 _, cell_alloc a1 _, cell_alloc a2 _, cell_alloc b0 _, cell_alloc b1 _, cell_alloc b2 _, new0 _ _ _ _ _, new1 _ _ _ _ _, new2 _ _ _ _ _, o3.keepB (below_al (Below.refl _ _) _), o4.keepB (below_al (Below.refl _ _) _), o5.keepB (below_al (Below.refl _ _) _), o6.keepB (below_al (Below.refl _ _) _), o7.keepB (below_al (Below.refl _ _) _), o8.keepB (below_al (Below.refl _ _) _)⟩ (fun V3 hS => ?_)
  clear hu x0 x1 x2 a0 a1 a2 b0 b1 b2 o3 o4 o5 o6 o7 o8 l1 l2 l3
  obtain ⟨hu, x0, x1, x2, a0, a1, a2, b0, b1, b2, d0, d1, d2, o3, o4, o5, o6, o7, o8⟩ := hS
  refine (C5.out _ (keepB hbU hu)).mono ?_
  rintro e w6 ⟨A9, p9, A10, p10, rfl, o9, o10, -, hb⟩
  replace x0 := keepC hb x0
  replace x1 := keepC hb x1
  replace x2 := keepC hb x2
  replace a0 := keepC hb a0
  replace a1 := keepC hb a1
  replace a2 := keepC hb a2
  replace b0 := keepC hb b0
  replace b1 := keepC hb b1
  replace b2 := keepC hb b2
  replace d0 := keepC hb d0
  replace d1 := keepC hb d1
  replace d2 := keepC hb d2
  replace o3 := o3.keepB hb
  replace o4 := o4.keepB hb
  replace o5 := o5.keepB hb
  replace o6 := o6.keepB hb
  replace o7 := o7.keepB hb
  replace o8 := o8.keepB hb
  replace o9 := o9.mono hu.size
  replace o10 := o10.mono hu.size
  replace hu := keepB hu hb
  clear hb C4 C5
  have l1 := lt_of_cell x0
  have l2 := lt_of_cell a0
  have l3 := lt_of_cell b0
  have l4 := lt_of_cell d0
  go_wp2_with fail
  refine at_worldR (fun v => Below U.heap.size U v ∧ v.cell? ⟨w.heap.size, 0, none⟩ = some (.int .i64 len) ∧ v.cell? ⟨w.heap.size, 1, none⟩ = some (.slice K cuts.length ck) ∧ v.cell? ⟨w.heap.size, 2, none⟩ = some (.slice Z dens.length cz) ∧ v.cell? ⟨w3.heap.size, 0, none⟩ = some (.int .i64 NL) ∧ v.cell? ⟨w3.heap.size, 1, none⟩ = some (.slice A3 NC.length p3) ∧ v.cell? ⟨w3.heap.size, 2, none⟩ = some (.slice A4 ND.length p4) ∧ v.cell? ⟨w4.heap.size, 0, none⟩ = some (.int .i64 NL) ∧ v.cell? ⟨w4.heap.size, 1, none⟩ = some (.slice A5 NC.length p5) ∧ v.cell? ⟨w4.heap.size, 2, none⟩ = some (.slice A6 ND.length p6) ∧ v.cell? ⟨w5.heap.size, 0, none⟩ = some (.int .i64 PL) ∧ v.cell? ⟨w5.heap.size, 1, none⟩ = some (.slice A7 PC.length p7) ∧ v.cell? ⟨w5.heap.size, 2, none⟩ = some (.slice A8 PD.length p8) ∧ v.cell? ⟨w6.heap.size, 0, none⟩ = some (.int .i64 PL) ∧ v.cell? ⟨w6.heap.size, 1, none⟩ = some (.slice A9 PC.length p9) ∧ v.cell? ⟨w6.heap.size, 2, none⟩ = some (.slice A10 PD.length p10) ∧ Own v U.heap.size (.slice A3 NC.length p3) NC ∧ Own v U.heap.size (.slice A4 ND.length p4) ND ∧ Own v U.heap.size (.slice A5 NC.length p5) NC ∧ Own v U.heap.size (.slice A6 ND.length p6) ND ∧ Own v U.heap.size (.slice A7 PC.length p7) PC ∧ Own v U.heap.size (.slice A8 PD.length p8) PD ∧ Own v U.heap.size (.slice A9 PC.length p9) PC ∧ Own v U.heap.size (.slice A10 PD.length p10) PD) ⟨below_al hu _, cell_alloc x0 _, cell_alloc x1 _, cell_alloc x2 _, cell_alloc a0 _, cell_alloc a1 _, cell_alloc a2 _, cell_alloc b0 _, cell_alloc b1 _, cell_alloc b2 _, cell_alloc d0 _, cell_alloc d1 _, cell_alloc d2 _, new0 _ _ _ _ _, new1 _ _ _ _ _, new2 _ _ _ _ _, o3.keepB (below_al (Below.refl _ _) _), o4.keepB (below_al (Below.refl _ _) _), o5.keepB (below_al (Below.refl _ _) _), o6.keepB (below_al (Below.refl _ _) _), o7.keepB (below_al (Below.refl _ _) _), o8.keepB (below_al (Below.refl _ _) _), o9.keepB (below_al (Below.refl _ _) _), o10.keepB (below_al (Below.refl _ _) _)⟩ (fun V4 hS => ?_)
  clear hu x0 x1 x2 a0 a1 a2 b0 b1 b2 d0 d1 d2 o3 o4 o5 o6 o7 o8 o9 o10 l1 l2 l3 l4
  obtain ⟨hu, x0, x1, x2, a0, a1, a2, b0, b1, b2, d0, d1, d2, h0, h1, h2, o3, o4, o5, o6, o7, o8, o9, o10⟩ := hS
  have C6 := Lib.hid (same_own N1 N2 N3 N4 N5 o3 o4 o5 o6)
  have C7 := Lib.hid (same_own P1 P2 P3 P4 P5 o7 o8 o9 o10)
  clear o4 o5 o6 o7 o9 o10
  refine (C6.out _ (Below.refl _ _)).mono ?_
  rintro e w7 ⟨rfl, k0⟩
  replace a0 := keepC k0 a0
  replace a1 := keepC k0 a1
  replace a2 := keepC k0 a2
  replace b0 := keepC k0 b0
  replace b1 := keepC k0 b1
  replace b2 := keepC k0 b2
  replace d0 := keepC k0 d0
  replace d1 := keepC k0 d1
  replace d2 := keepC k0 d2
  replace h0 := keepC k0 h0
  replace h1 := keepC k0 h1
  replace h2 := keepC k0 h2
  go_wp2_with fail
  refine (C7.out _ k0).mono ?_
  rintro e w8 ⟨rfl, hb⟩
  replace a1 := keepC hb a1
  replace d2 := keepC hb d2
  replace k0 := keepB k0 hb
  replace o3 := o3.keepB k0
  replace o8 := o8.keepB k0
  replace hu := keepB hu k0
  have HO8 := Lib.hid o8
  have HO3 := Lib.hid o3
  clear o3 o8 C6 C7 a0 a2 b0 b1 b2 d0 d1 h0 h1 h2 x0 x1 x2 hb
  go_wp2_with fail
  go_loopw [16] (fun i v => ∃ (k : Nat) (ys : List Int), k ≤ PD.length ∧ i = .int .i64 k ∧ Hid (ys.length = PD.length) ∧ Hid (Own v U.heap.size (.slice A8 PD.length p8) ys) ∧ Below U.heap.size U v ∧ v.cell? ⟨w5.heap.size, 2, none⟩ = some (.slice A8 PD.length p8) ∧ v.cell? ⟨w3.heap.size, 1, none⟩ = some (.slice A3 NC.length p3) ∧ Own v U.heap.size (.slice A3 NC.length p3) NC) (fun i _ => PD.length - (intOf i).toNat)
  case atStart => exact ⟨0, PD, Nat.zero_le _, rfl, Lib.hid rfl, Lib.hid HO8.out, hu, d2, a1, HO3.out⟩
  case round =>
    clear hu d2 a1 HO8 HO3 k0
    obtain ⟨k, ys, hk, rfl, HL, HO, hu, d2, a1, o3⟩ := hrel
    by_cases hlt : k < PD.length
    · obtain ⟨g, rfl⟩ := Own.blk HO.out (by rw [HL.out]; omega)
      have hg := HG8.out g rfl
      have c0 := HO.out.cell k (by rw [HL.out]; exact hlt)
      have f0 := HO.out.frozen k
      have HA := Lib.hid (fun e : (Value.slice A3 NC.length p3).ownBlock = some g => (show False by have := (HG3.out g e).2; omega))
      have HOwn := Lib.hid o3
      have t1 : (0 : Int) ≤ (k : Int) := by omega
      have t2 : (k : Int) < (PD.length : Int) := by omega
      have hgu : U.heap.size ≤ g := (HO.out.lt g rfl).1
      clear o3
      go_wp2_with fail
      go_roundw
      case rel => exact ⟨k + 1, ys.set k (-1), hlt, by go_num, Lib.hid (by rw [List.length_set]; exact HL.out), Lib.hid (HO.out.stored HL.out.symm k (-1)), below_st hu hgu _, cell_far d2 (by omega) _, cell_far a1 (by omega) _, HOwn.out.set HA.out _⟩
      case measure => simp [intOf]; omega
    · obtain rfl : k = PD.length := by omega
      have HO3 := Lib.hid o3
      clear HO HL o3
      go_wp2_with fail
      go_loopw [17] (fun i v => ∃ (k : Nat) (zs : List Int), k ≤ NC.length ∧ i = .int .i64 k ∧ Hid (zs.length = NC.length) ∧ Hid (Own v U.heap.size (.slice A3 NC.length p3) zs) ∧ Below U.heap.size U v ∧ v.cell? ⟨w3.heap.size, 1, none⟩ = some (.slice A3 NC.length p3)) (fun i _ => NC.length - (intOf i).toNat)
      case atStart => exact ⟨0, NC, Nat.zero_le _, rfl, Lib.hid rfl, Lib.hid HO3.out, hu, a1⟩
      case round =>
        clear hu a1 HO3
        obtain ⟨k, zs, hk, rfl, HL, HO, hu, a1⟩ := hrel
        by_cases hlt : k < NC.length
        · obtain ⟨g, rfl⟩ := Own.blk HO.out (by rw [HL.out]; omega)
          have hg := HG3.out g rfl
          have c0 := HO.out.cell k (by rw [HL.out]; exact hlt)
          have f0 := HO.out.frozen k
          have t1 : (0 : Int) ≤ (k : Int) := by omega
          have t2 : (k : Int) < (NC.length : Int) := by omega
          go_wp2_with fail
          go_roundw
          case rel => exact ⟨k + 1, zs.set k (-1), hlt, by go_num, Lib.hid (by rw [List.length_set]; exact HL.out), Lib.hid (HO.out.stored HL.out.symm k (-1)), below_st hu hg.1 _, cell_far a1 (by omega) _⟩
          case measure => simp [intOf]; omega
        · obtain rfl : k = NC.length := by omega
          obtain ⟨x0, x1, x2⟩ := QX.out _ hu
          obtain ⟨y0, y1, y2⟩ := QY.out _ hu
          clear HO HL
          go_wp2_with fail
          refine (C8.out _ hu).mono ?_
          rintro e w9 ⟨rfl, hb⟩
          go_wp2_with fail
          go_ret
          exact ⟨rfl, keepB hbU (keepB hu hb)⟩

theorem forms {e : Ending} {w' v : World} {B : Nat} {r : Int × List Int × List Int × Int} (h : ∃ v1 v2, e = .returned (.tuple #[.agg #[.int .i64 r.1, v1, v2], .int .i64 r.2.2.2]) ∧ Own w' B v1 r.2.1 ∧ Own w' B v2 r.2.2.1 ∧ (∀ g, v1.ownBlock = some g → v2.ownBlock ≠ some g) ∧ Below v.heap.size v w') :
    ∃ A p D q, e = .returned (.tuple #[.agg #[.int .i64 r.1, .slice A r.2.1.length p, .slice D r.2.2.1.length q], .int .i64 r.2.2.2]) ∧ Own w' B (.slice A r.2.1.length p) r.2.1 ∧ Own w' B (.slice D r.2.2.1.length q) r.2.2.1 ∧ (∀ g, (Value.slice A r.2.1.length p).ownBlock = some g → (Value.slice D r.2.2.1.length q).ownBlock ≠ some g) ∧ Below v.heap.size v w' := by
  obtain ⟨v1, v2, h0, h1, h2, h3, h4⟩ := h
  obtain ⟨A, p, rfl⟩ := h1.form
  obtain ⟨D, q, rfl⟩ := h2.form
  exact ⟨A, p, D, q, h0, h1, h2, h3, h4⟩

set_option maxHeartbeats 2000000 in
set_option maxRecDepth 100000 in
theorem parts_walk (len : Int) (K : Option Addr) (cuts : List Int) (ck : Nat) (Z : Option Addr) (dens : List Int) (cz : Nat) (a b : Int) (w : World) (h : IsCake w len K cuts Z dens) (hck : cuts.length ≤ ck) (hcz : dens.length ≤ cz) (a0 : -9223372036854775808 ≤ a) (a1 : a ≤ 9223372036854775807) (b0 : -9223372036854775808 ≤ b) (b1 : b ≤ 9223372036854775807) :
    Calls Try.prog 5 #[.agg #[.int .i64 len, .slice K cuts.length ck, .slice Z dens.length cz], .int .i64 a, .int .i64 b] w fun e w' => e = .returned (.bool true) ∧ Below w.heap.size w w' := by
  have c0 := fun v => great_any len K cuts ck Z dens cz v h.2.1.1 h.2.1.2
  rcases gA : (decide (60 < cuts.length) || decide (60 < dens.length)) with _ | _
  · rw [gA] at c0
    have hl : cuts.length ≤ 60 ∧ dens.length ≤ 60 := by
      rw [Bool.or_eq_false_iff, decide_eq_false_iff_not, decide_eq_false_iff_not] at gA
      omega
    obtain ⟨N1, N2, N3, N4, N5⟩ := Ck.norS_fine (c := cuts) (d := dens) h.1 h.2.2.1.bd h.2.2.2.bd hl.2
    obtain ⟨P1, P2, P3, P4, P5⟩ := Ck.parS_fine (len := len) (c := cuts) (d := dens) (a := a) (b := b) h.2.2.2.bd hl.2
    refine parts_same len K cuts ck Z dens cz a b w h _ _ _ _ _ _ _ _ N1 N2 N3 N4 N5 P1 P2 P3 P4 P5 c0 (fun v hv => twin_any len K cuts ck Z dens cz v (h.keep hv) hl.1 hl.2)
      (fun v hv => (ckNormal_any len K cuts ck Z dens cz v (h.keep hv)).mono fun e w' hh => forms hh) (fun v hv => ?_)
      (fun v hv => (ckPart_any len K cuts ck Z dens cz a b v (h.keep hv) hck hcz ⟨a0, a1⟩ ⟨b0, b1⟩).mono fun e w' hh => forms hh)
      (fun v hv => (rckPart_any len K cuts ck Z dens cz a b v (h.keep hv) ⟨a0, a1⟩ ⟨b0, b1⟩).mono fun e w' hh => forms hh)
    have := rckNormal_any len K cuts ck Z dens cz v (h.keep hv)
    rw [Ck.rnorS_eq] at this
    exact this.mono fun e w' hh => forms hh
  · rw [gA] at c0
    have C0 := Lib.hid c0
    clear c0 gA h
    go_enter Try.func5, Try.ntmps5
    go_wp2_with fail
    refine (C0.out _).mono ?_
    rintro e w1 ⟨rfl, hb1⟩
    have hbb : Below w.heap.size w w1 := keepB ((Below.refl _ _).alloc (Nat.le_refl _) _) hb1
    clear hb1 C0
    go_wp2_with fail
    go_ret
    exact ⟨rfl, hbb⟩
end Go.Proofs.Ytbcnngjcggddbaa
