/- The walk of the law CakeNames: it answers true. -/
import Derived.Test.YtomokdepndclpaaNam2
import Derived.Laws.MakeOwn
namespace Go.Proofs.Ytomokdepndclpaa
open Go.RowKit
theorem isI_bk {v : World} {p : Nat} {xs : List Int} (h : BK v p (xs.map (Value.int .i64))) (hb : ∀ x ∈ xs, I64 x) : IsI v (some ⟨p, 0, none⟩) xs :=
  ⟨fun _ => ⟨p, 0, rfl, fun i hi => by
    have := h.c i (x := .int .i64 xs[i]) (by simp [hi])
    rw [Nat.zero_add, this, Ck.at_lt hi]⟩, hb⟩
theorem isI_lt {v : World} {A : Option Addr} {zs : List Int} (h : IsI v A zs) (h0 : 0 < zs.length) {b off : Nat} (e : A = some ⟨b, off, none⟩) : b < v.heap.size := by
  obtain ⟨b', off', e', hc⟩ := h.1 h0
  rw [e] at e'
  simp only [Option.some.injEq, Addr.mk.injEq] at e'
  rw [e'.1]
  exact lt_of_cell (hc 0 h0)
theorem isI_set {v : World} {A : Option Addr} {zs : List Int} (h : IsI v A zs) {B p : Nat} (hb : ∀ b off, A = some ⟨b, off, none⟩ → b < B) (hp : B ≤ p) (u : Value) : IsI (v.setCell ⟨p, 0, none⟩ u) A zs :=
  ⟨fun h0 => by
    obtain ⟨b, off, e, hc⟩ := h.1 h0
    exact ⟨b, off, e, fun i hi => cell_far (hc i hi) (by have := hb b off e; omega) u⟩, h.2⟩
theorem cake_set {v : World} {len len' : Int} {K Z : Option Addr} {cuts dens : List Int} (h : IsCake v len K cuts Z dens) (hl : I64 len') {B p : Nat} (hK : ∀ b off, K = some ⟨b, off, none⟩ → b < B) (hZ : ∀ b off, Z = some ⟨b, off, none⟩ → b < B) (hp : B ≤ p) (u : Value) : IsCake (v.setCell ⟨p, 0, none⟩ u) len' K cuts Z dens :=
  ⟨hl, h.2.1, isI_set h.2.2.1 hK hp u, isI_set h.2.2.2 hZ hp u⟩
theorem isI_nil (v : World) (A : Option Addr) : IsI v A [] := ⟨fun h => absurd h (by simp), by intro x hx; cases hx⟩
theorem nm_chkz (K Z : Option Addr) (v : World) (h : IsCake v 1001 K [0, 4, 6, 10] Z [2, 0, 3]) :
    Calls Try.prog 24 #[.agg #[.int .i64 1001, .slice K 4 4, .slice Z 3 3]] v fun e w' => e = .returned (.int .i64 4) ∧ Below v.heap.size v w' := by
  have := ckCheck_any 1001 K [0, 4, 6, 10] 4 Z [2, 0, 3] 3 v h
  rw [show Ck.chk 1001 [0, 4, 6, 10] [2, 0, 3] = 4 by decide +kernel] at this
  exact this
theorem nm_chk0 (v : World) :
    Calls Try.prog 24 #[.agg #[.int .i64 0, .slice none 0 0, .slice none 0 0]] v fun e w' => e = .returned (.int .i64 8) ∧ Below v.heap.size v w' := by
  have := ckCheck_any 0 none [] 0 none [] 0 v ⟨⟨by decide, by decide⟩, ⟨by simp, by simp⟩, isI_nil _ _, isI_nil _ _⟩
  rw [show Ck.chk 0 [] [] = 8 by decide +kernel] at this
  exact this
theorem nm_same0 (A : Option Addr) (v : World) :
    Calls Try.prog 25 #[.agg #[.int .i64 0, .slice none 0 0, .slice none 0 0], .agg #[.int .i64 0, .slice A 0 0, .slice none 0 0]] v fun e w' => e = .returned (.bool true) ∧ Below v.heap.size v w' := by
  have := ckSame_any 0 none [] 0 none [] 0 0 A [] 0 none [] 0 v ⟨⟨by decide, by decide⟩, ⟨by simp, by simp⟩, isI_nil _ _, isI_nil _ _⟩ ⟨⟨by decide, by decide⟩, ⟨by simp, by simp⟩, isI_nil _ _, isI_nil _ _⟩
  rw [show Ck.same 0 [] [] 0 [] [] = true by decide +kernel] at this
  exact this
theorem lit_chk (len : Int) (c d : List Int) (r : Int) (p q ck cz : Nat) (v : World) (hl : I64 len) (hm : c.length ≤ maxLen ∧ d.length ≤ maxLen) (L1 : BK v p (c.map (Value.int .i64))) (L2 : BK v q (d.map (Value.int .i64))) (b1 : ∀ x ∈ c, I64 x) (b2 : ∀ x ∈ d, I64 x) (hr : Ck.chk len c d = r) :
    Calls Try.prog 24 #[.agg #[.int .i64 len, .slice (some ⟨p, 0, none⟩) c.length ck, .slice (some ⟨q, 0, none⟩) d.length cz]] v fun e w' => e = .returned (.int .i64 r) ∧ Below v.heap.size v w' := by
  have := ckCheck_any len (some ⟨p, 0, none⟩) c ck (some ⟨q, 0, none⟩) d cz v ⟨hl, hm, isI_bk L1 b1, isI_bk L2 b2⟩
  rw [hr] at this
  exact this
theorem lit_chkn (len : Int) (c : List Int) (r : Int) (p ck cz : Nat) (v : World) (hl : I64 len) (hm : c.length ≤ maxLen) (L1 : BK v p (c.map (Value.int .i64))) (b1 : ∀ x ∈ c, I64 x) (hr : Ck.chk len c [] = r) :
    Calls Try.prog 24 #[.agg #[.int .i64 len, .slice (some ⟨p, 0, none⟩) c.length ck, .slice none 0 cz]] v fun e w' => e = .returned (.int .i64 r) ∧ Below v.heap.size v w' := by
  have := ckCheck_any len (some ⟨p, 0, none⟩) c ck none [] cz v ⟨hl, ⟨hm, by simp⟩, isI_bk L1 b1, isI_nil _ _⟩
  rw [hr] at this
  exact this
theorem set16 {α : Type} (a0 a1 a2 a3 a4 a5 a6 a7 a8 a9 a10 a11 a12 a13 a14 a15 : α) (l : List α) (n : Nat) (v : α) : (a0 :: a1 :: a2 :: a3 :: a4 :: a5 :: a6 :: a7 :: a8 :: a9 :: a10 :: a11 :: a12 :: a13 :: a14 :: a15 :: l).set (n + 16) v = a0 :: a1 :: a2 :: a3 :: a4 :: a5 :: a6 :: a7 :: a8 :: a9 :: a10 :: a11 :: a12 :: a13 :: a14 :: a15 :: l.set n v := rfl
theorem mk_run41 (u : World) : (Instr.makeSlice 25 (.int .i64 41) (.int .i64 41)).run Try.prog u = .ok (.slice (some ⟨u.heap.size, 0, none⟩) 41 41) (u.alloc (.cells (madeCells #[.int .i64 0] 41) 3)) := by
  have := run_make (P := Try.prog) u 25 3 Try.t3 (.int .i64 0) Try.underlying25 (by kernel_rfl) (by kernel_rfl) .i64 .i64 41 41 (by omega) (Int.le_refl _) (by decide +kernel) (by omega)
  simpa [show Try.t3.size = 1 from rfl, Value.cells] using this
theorem bk_made (u : World) : BK (u.alloc (.cells (madeCells #[.int .i64 0] 41) 3)) u.heap.size (List.replicate 41 (.int .i64 0)) := by
  have e : madeCells #[.int .i64 0] 41 = (List.replicate 41 (Value.int .i64 0)).toArray := by kernel_rfl
  rw [e]
  exact BK.new _ _ _
set_option linter.unusedSimpArgs false in
set_option maxHeartbeats 64000000 in
set_option maxRecDepth 100000 in
theorem names2_walk (w : World) : Calls Try.prog 3 #[] w fun e w' => e = .returned (.bool true) ∧ Below w.heap.size w w' := by
  go_enter Try.func3, Try.ntmps3
  go_wp2_with fail
  refine (given4_any _).mono ?_
  rintro e w1 ⟨K, Z, rfl, hI, hb⟩
  have hbb : Below w.heap.size w w1 := hb
  clear hb
  go_wp2_with fail
  refine (of2_any _ _).mono ?_
  rintro e w2 ⟨rfl, hb⟩
  replace hI := hI.keep hb
  replace hbb := keepB hbb hb
  clear hb
  go_wp2_with fail
  refine (nm_dens4 K Z _ hI).mono ?_
  rintro e w3 ⟨rfl, hb⟩
  replace hbb := keepB hbb hb
  clear hb
  go_wp2_with fail
  refine (given4_any _).mono ?_
  rintro e w4 ⟨K, Z, rfl, hI, hb⟩
  replace hbb := keepB hbb hb
  clear hb
  go_wp2_with fail
  refine (of2_any _ _).mono ?_
  rintro e w5 ⟨rfl, hb⟩
  replace hI := hI.keep hb
  replace hbb := keepB hbb hb
  clear hb
  go_wp2_with fail
  refine (nm_dens10 K Z _ hI).mono ?_
  rintro e w6 ⟨rfl, hb⟩
  replace hbb := keepB hbb hb
  clear hb
  as_aux_lemma =>
    go_wp2_with fail
    refine (given4_any _).mono ?_
    rintro e w7 ⟨K, Z, rfl, hI, hb⟩
    replace hbb := keepB hbb hb
    clear hb
    go_wp2_with fail
    refine (nm_partp K Z _ hI).mono ?_
    rintro e w8 ⟨Kp, kp, Zp, zp, rfl, hIp, hb⟩
    replace hbb := keepB hbb hb
    clear hb
    go_upto_region 4 with fail
    refine at_worldQ (fun v => Below w.heap.size w v ∧ BK v (w8.heap.size) [.int .i64 4, .slice Kp 4 kp, .slice Zp 3 zp] ∧ IsCake v 4 Kp [0, 1, 3, 4] Zp [2, 0, 3]) ⟨(below_al hbb _), (BK.new _ _ _), hIp.keep (below_al (Below.refl _ _) _)⟩ (fun Vw9 hS => ?_)
    clear hbb hIp
    obtain ⟨hbb, B5, hIp⟩ := hS
    as_aux_lemma =>
      go_wp2_with fail
      refine (given4_any _).mono ?_
      rintro e w10 ⟨K, Z, rfl, hI, hb⟩
      replace B5 := B5.keep hb
      replace hIp := hIp.keep hb
      replace hbb := keepB hbb hb
      clear hb
      go_wp2_with fail
      refine (nm_parte K Z _ hI).mono ?_
      rintro e w11 ⟨Ke, ke, Ze, ze, rfl, _, hb⟩
      replace B5 := B5.keep hb
      replace hIp := hIp.keep hb
      replace hbb := keepB hbb hb
      clear hb
      go_upto_region 5 with fail
      refine at_worldQ (fun v => Below w.heap.size w v ∧ BK v (w8.heap.size) [.int .i64 4, .slice Kp 4 kp, .slice Zp 3 zp] ∧ IsCake v 4 Kp [0, 1, 3, 4] Zp [2, 0, 3]) ⟨(below_al hbb _), (B5.al _), hIp.keep (below_al (Below.refl _ _) _)⟩ (fun Vw12 hS => ?_)
      clear hbb B5 hIp
      obtain ⟨hbb, B5, hIp⟩ := hS
      go_wp2_with fail
      refine at_worldR (fun v => Below w.heap.size w v ∧ BK v (w8.heap.size) [.int .i64 4, .slice Kp 4 kp, .slice Zp 3 zp] ∧ BK v (Vw12.heap.size) [.int .i64 0, .int .i64 1, .int .i64 2, .int .i64 4] ∧ BK v (Vw12.heap.size + 1) [.int .i64 1, .int .i64 1, .int .i64 0] ∧ IsCake v 4 Kp [0, 1, 3, 4] Zp [2, 0, 3]) ⟨(below_al (below_al hbb _) _), ((B5.al _).al _), (BK.al (BK.new _ _ _) _), (by have b := BK.new (Vw12.alloc (.cells #[.int .i64 0, .int .i64 1, .int .i64 2, .int .i64 4] 3)) [.int .i64 1, .int .i64 1, .int .i64 0] 3; simpa only [World.size_alloc] using b), hIp.keep (below_al (below_al (Below.refl _ _) _) _)⟩ (fun Vw13 hS => ?_)
      clear hbb B5 hIp
      obtain ⟨hbb, B5, L1, L2, hIp⟩ := hS
      have hL : IsCake Vw13 4 (some ⟨Vw12.heap.size, 0, none⟩) [0, 1, 2, 4] (some ⟨Vw12.heap.size + 1, 0, none⟩) [1, 1, 0] := ⟨⟨by decide, by decide⟩, ⟨by simp [maxLen], by simp [maxLen]⟩, isI_bk (xs := [0, 1, 2, 4]) L1 (by intro x hx; simp at hx; rcases hx with rfl | rfl | rfl | rfl <;> exact ⟨by decide, by decide⟩), isI_bk (xs := [1, 1, 0]) L2 (by intro x hx; simp at hx; rcases hx with rfl | rfl | rfl <;> exact ⟨by decide, by decide⟩)⟩
      clear L1 L2
      refine (nm_normal _ _ _ _ _ hL).mono ?_
      rintro e w14 ⟨Kn, kn, Zn, zn, rfl, hIn, hb⟩
      replace B5 := B5.keep hb
      replace hIp := hIp.keep hb
      replace hbb := keepB hbb hb
      clear hb
      clear hL
      go_upto_region 6 with fail
      refine at_worldQ (fun v => Below w.heap.size w v ∧ BK v (w8.heap.size) [.int .i64 4, .slice Kp 4 kp, .slice Zp 3 zp] ∧ BK v (w14.heap.size) [.int .i64 4, .slice Kn 3 kn, .slice Zn 2 zn] ∧ IsCake v 4 Kp [0, 1, 3, 4] Zp [2, 0, 3] ∧ IsCake v 4 Kn [0, 2, 4] Zn [1, 0]) ⟨(below_al hbb _), (B5.al _), (BK.new _ _ _), hIp.keep (below_al (Below.refl _ _) _), hIn.keep (below_al (Below.refl _ _) _)⟩ (fun Vw15 hS => ?_)
      clear hbb B5 hIp hIn
      obtain ⟨hbb, B5, B9, hIp, hIn⟩ := hS
      as_aux_lemma =>
        go_wp2_with fail
        refine (given4_any _).mono ?_
        rintro e w16 ⟨K, Z, rfl, hI, hb⟩
        replace B5 := B5.keep hb
        replace B9 := B9.keep hb
        replace hIp := hIp.keep hb
        replace hIn := hIn.keep hb
        replace hbb := keepB hbb hb
        clear hb
        go_wp2_with fail
        refine (nm_val K Z _ hI).mono ?_
        rintro e w17 ⟨rfl, hb⟩
        replace B5 := B5.keep hb
        replace B9 := B9.keep hb
        replace hIp := hIp.keep hb
        replace hIn := hIn.keep hb
        replace hbb := keepB hbb hb
        clear hb
        go_upto_region 7 with fail
        refine at_worldQ (fun v => Below w.heap.size w v ∧ BK v (w8.heap.size) [.int .i64 4, .slice Kp 4 kp, .slice Zp 3 zp] ∧ BK v (w14.heap.size) [.int .i64 4, .slice Kn 3 kn, .slice Zn 2 zn] ∧ BK v (w17.heap.size) [.int .i64 53, .int .i64 6] ∧ IsCake v 4 Kp [0, 1, 3, 4] Zp [2, 0, 3] ∧ IsCake v 4 Kn [0, 2, 4] Zn [1, 0]) ⟨(below_al hbb _), (B5.al _), (B9.al _), (BK.new _ _ _), hIp.keep (below_al (Below.refl _ _) _), hIn.keep (below_al (Below.refl _ _) _)⟩ (fun Vw18 hS => ?_)
        clear hbb B5 B9 hIp hIn
        obtain ⟨hbb, B5, B9, Bv, hIp, hIn⟩ := hS
        go_wp2_with fail
        refine (given4_any _).mono ?_
        rintro e w19 ⟨K, Z, rfl, hI, hb⟩
        replace B5 := B5.keep hb
        replace B9 := B9.keep hb
        replace Bv := Bv.keep hb
        replace hIp := hIp.keep hb
        replace hIn := hIn.keep hb
        replace hbb := keepB hbb hb
        clear hb
        go_wp2_with fail
        refine (of2_any _ _).mono ?_
        rintro e w20 ⟨rfl, hb⟩
        replace B5 := B5.keep hb
        replace B9 := B9.keep hb
        replace Bv := Bv.keep hb
        replace hIp := hIp.keep hb
        replace hIn := hIn.keep hb
        replace hI := hI.keep hb
        replace hbb := keepB hbb hb
        clear hb
        go_wp2_with fail
        refine (nm_mkx K Z _ hI).mono ?_
        rintro e w21 ⟨rfl, hb⟩
        replace B5 := B5.keep hb
        replace B9 := B9.keep hb
        replace Bv := Bv.keep hb
        replace hIp := hIp.keep hb
        replace hIn := hIn.keep hb
        replace hbb := keepB hbb hb
        clear hb
        go_upto_region 8 with fail
        refine at_worldQ (fun v => Below w.heap.size w v ∧ BK v (w8.heap.size) [.int .i64 4, .slice Kp 4 kp, .slice Zp 3 zp] ∧ BK v (w14.heap.size) [.int .i64 4, .slice Kn 3 kn, .slice Zn 2 zn] ∧ BK v (w17.heap.size) [.int .i64 53, .int .i64 6] ∧ BK v (w21.heap.size) [.int .i64 4, .int .i64 1] ∧ IsCake v 4 Kp [0, 1, 3, 4] Zp [2, 0, 3] ∧ IsCake v 4 Kn [0, 2, 4] Zn [1, 0]) ⟨(below_al hbb _), (B5.al _), (B9.al _), (Bv.al _), (BK.new _ _ _), hIp.keep (below_al (Below.refl _ _) _), hIn.keep (below_al (Below.refl _ _) _)⟩ (fun Vw22 hS => ?_)
        clear hbb B5 B9 Bv hIp hIn
        obtain ⟨hbb, B5, B9, Bv, Bx, hIp, hIn⟩ := hS
        as_aux_lemma =>
          go_wp2_with fail
          refine (given4_any _).mono ?_
          rintro e w23 ⟨K, Z, rfl, hI, hb⟩
          replace B5 := B5.keep hb
          replace B9 := B9.keep hb
          replace Bv := Bv.keep hb
          replace Bx := Bx.keep hb
          replace hIp := hIp.keep hb
          replace hIn := hIn.keep hb
          replace hbb := keepB hbb hb
          clear hb
          go_wp2_with fail
          refine (of2_any _ _).mono ?_
          rintro e w24 ⟨rfl, hb⟩
          replace B5 := B5.keep hb
          replace B9 := B9.keep hb
          replace Bv := Bv.keep hb
          replace Bx := Bx.keep hb
          replace hIp := hIp.keep hb
          replace hIn := hIn.keep hb
          replace hI := hI.keep hb
          replace hbb := keepB hbb hb
          clear hb
          go_wp2_with fail
          refine (of2_any _ _).mono ?_
          rintro e w25 ⟨rfl, hb⟩
          replace B5 := B5.keep hb
          replace B9 := B9.keep hb
          replace Bv := Bv.keep hb
          replace Bx := Bx.keep hb
          replace hIp := hIp.keep hb
          replace hIn := hIn.keep hb
          replace hI := hI.keep hb
          replace hbb := keepB hbb hb
          clear hb
          go_wp2_with fail
          refine (nm_mky K Z _ hI).mono ?_
          rintro e w26 ⟨rfl, hb⟩
          replace B5 := B5.keep hb
          replace B9 := B9.keep hb
          replace Bv := Bv.keep hb
          replace Bx := Bx.keep hb
          replace hIp := hIp.keep hb
          replace hIn := hIn.keep hb
          replace hbb := keepB hbb hb
          clear hb
          go_upto_region 9 with fail
          refine at_worldQ (fun v => Below w.heap.size w v ∧ BK v (w8.heap.size) [.int .i64 4, .slice Kp 4 kp, .slice Zp 3 zp] ∧ BK v (w14.heap.size) [.int .i64 4, .slice Kn 3 kn, .slice Zn 2 zn] ∧ BK v (w17.heap.size) [.int .i64 53, .int .i64 6] ∧ BK v (w21.heap.size) [.int .i64 4, .int .i64 1] ∧ BK v (w26.heap.size) [.int .i64 10, .int .i64 1] ∧ IsCake v 4 Kp [0, 1, 3, 4] Zp [2, 0, 3] ∧ IsCake v 4 Kn [0, 2, 4] Zn [1, 0]) ⟨(below_al hbb _), (B5.al _), (B9.al _), (Bv.al _), (Bx.al _), (BK.new _ _ _), hIp.keep (below_al (Below.refl _ _) _), hIn.keep (below_al (Below.refl _ _) _)⟩ (fun Vw27 hS => ?_)
          clear hbb B5 B9 Bv Bx hIp hIn
          obtain ⟨hbb, B5, B9, Bv, Bx, By, hIp, hIn⟩ := hS
          have c50 := B5.c 0 rfl
          have c90 := B9.c 0 rfl
          have c51 := B5.c 1 rfl
          have c91 := B9.c 1 rfl
          have c52 := B5.c 2 rfl
          have c92 := B9.c 2 rfl
          have cv0 := Bv.c 0 rfl
          have cv1 := Bv.c 1 rfl
          have cx0 := Bx.c 0 rfl
          have cx1 := Bx.c 1 rfl
          have cy0 := By.c 0 rfl
          have cy1 := By.c 1 rfl
          go_cut [17] (fun x v => x = .bool true ∧ Below Vw27.heap.size Vw27 v)
          case first =>
            as_aux_lemma =>
              refine wp_region_held_drew (S := (Below Vw27.heap.size Vw27)) (by kernel_rfl) ((Below.refl _ _).drew) (fun hHeld => ?_)
              refine at_anyH (Below Vw27.heap.size Vw27) hHeld (fun wn0 hNew => ?_)
              clear hHeld
              have hHeld := hNew
              clear hNew
              refine wpAnyH_take (i := 0) (oi := _) (v := ?vn1) rfl (by kernel_rfl) (by kernel_rfl) (by kernel_rfl) (fun _ _ _ h => h) (Or.inl ⟨by kernel_rfl, ?hyn1⟩) hHeld ?restn1
              case hyn1 => (intro w hSw; go_simp; first | done | (with_reducible rfl))
              try simp only [Act.put, List.append, List.getElem_toArray, List.getElem_cons_succ, List.getElem_cons_zero, List.setIfInBounds_toArray, set16]
              try simp only [List.set_cons_zero, List.set_cons_succ]
              refine wpAnyH_take (i := 1) (oi := _) (v := ?vn2) rfl (by kernel_rfl) (by kernel_rfl) (by kernel_rfl) (fun _ _ _ h => h) (Or.inl ⟨by kernel_rfl, ?hyn2⟩) hHeld ?restn2
              case hyn2 => (intro w hSw; go_simp; first | done | (with_reducible rfl))
              try simp only [Act.put, List.append, List.getElem_toArray, List.getElem_cons_succ, List.getElem_cons_zero, List.setIfInBounds_toArray, set16]
              try simp only [List.set_cons_zero, List.set_cons_succ]
              refine wpAnyH_take (i := 2) (oi := _) (v := ?vn3) rfl (by kernel_rfl) (by kernel_rfl) (by kernel_rfl) (fun _ _ _ h => h) (Or.inl ⟨by kernel_rfl, ?hyn3⟩) hHeld ?restn3
              case hyn3 => (intro w hSw; go_simp; first | done | (with_reducible rfl))
              try simp only [Act.put, List.append, List.getElem_toArray, List.getElem_cons_succ, List.getElem_cons_zero, List.setIfInBounds_toArray, set16]
              try simp only [List.set_cons_zero, List.set_cons_succ]
              refine wpAnyH_take (i := 3) (oi := _) (v := ?vn4) rfl (by kernel_rfl) (by kernel_rfl) (by kernel_rfl) (fun _ _ _ h => h) (Or.inl ⟨by kernel_rfl, ?hyn4⟩) hHeld ?restn4
              case hyn4 => (intro w hSw; go_simp; first | done | (with_reducible rfl))
              try simp only [Act.put, List.append, List.getElem_toArray, List.getElem_cons_succ, List.getElem_cons_zero, List.setIfInBounds_toArray, set16]
              try simp only [List.set_cons_zero, List.set_cons_succ]
              refine wpAnyH_take (i := 4) (oi := _) (v := ?vn5) rfl (by kernel_rfl) (by kernel_rfl) (by kernel_rfl) (fun _ _ _ h => h) (Or.inl ⟨by kernel_rfl, ?hyn5⟩) hHeld ?restn5
              case hyn5 => (intro w hSw; go_simp; first | done | (with_reducible rfl))
              try simp only [Act.put, List.append, List.getElem_toArray, List.getElem_cons_succ, List.getElem_cons_zero, List.setIfInBounds_toArray, set16]
              try simp only [List.set_cons_zero, List.set_cons_succ]
              refine wpAnyH_take (i := 5) (oi := _) (v := ?vn6) rfl (by kernel_rfl) (by kernel_rfl) (by kernel_rfl) (fun _ _ _ h => h) (Or.inl ⟨by kernel_rfl, ?hyn6⟩) hHeld ?restn6
              case hyn6 => (intro w hSw; go_simp; first | done | (with_reducible rfl))
              try simp only [Act.put, List.append, List.getElem_toArray, List.getElem_cons_succ, List.getElem_cons_zero, List.setIfInBounds_toArray, set16]
              try simp only [List.set_cons_zero, List.set_cons_succ]
              refine wpAnyH_take (i := 6) (oi := _) (v := ?vn7) rfl (by kernel_rfl) (by kernel_rfl) (by kernel_rfl) (fun _ _ _ h => h) (Or.inl ⟨by kernel_rfl, ?hyn7⟩) hHeld ?restn7
              case hyn7 => (intro w hSw; go_simp; first | done | (with_reducible rfl))
              try simp only [Act.put, List.append, List.getElem_toArray, List.getElem_cons_succ, List.getElem_cons_zero, List.setIfInBounds_toArray, set16]
              try simp only [List.set_cons_zero, List.set_cons_succ]
              refine wpAnyH_take (i := 7) (oi := _) (v := ?vn8) rfl (by kernel_rfl) (by kernel_rfl) (by kernel_rfl) (fun _ _ _ h => h) (Or.inl ⟨by kernel_rfl, ?hyn8⟩) hHeld ?restn8
              case hyn8 => (intro w hSw; go_simp; first | done | (with_reducible rfl))
              try simp only [Act.put, List.append, List.getElem_toArray, List.getElem_cons_succ, List.getElem_cons_zero, List.setIfInBounds_toArray, set16]
              try simp only [List.set_cons_zero, List.set_cons_succ]
              refine wpAnyH_take (i := 8) (oi := _) (v := ?vn9) rfl (by kernel_rfl) (by kernel_rfl) (by kernel_rfl) (fun _ _ _ h => h) (Or.inl ⟨by kernel_rfl, ?hyn9⟩) hHeld ?restn9
              case hyn9 => (intro w hSw; go_simp; first | done | (with_reducible rfl))
              try simp only [Act.put, List.append, List.getElem_toArray, List.getElem_cons_succ, List.getElem_cons_zero, List.setIfInBounds_toArray, set16]
              try simp only [List.set_cons_zero, List.set_cons_succ]
              refine wpAnyH_take (i := 9) (oi := _) (v := ?vn10) rfl (by kernel_rfl) (by kernel_rfl) (by kernel_rfl) (fun _ _ _ h => h) (Or.inl ⟨by kernel_rfl, ?hyn10⟩) hHeld ?restn10
              case hyn10 => (intro w hSw; go_simp; first | done | (with_reducible rfl))
              try simp only [Act.put, List.append, List.getElem_toArray, List.getElem_cons_succ, List.getElem_cons_zero, List.setIfInBounds_toArray, set16]
              try simp only [List.set_cons_zero, List.set_cons_succ]
              refine wpAnyH_take (i := 10) (oi := _) (v := ?vn11) rfl (by kernel_rfl) (by kernel_rfl) (by kernel_rfl) (fun _ _ _ h => h) (Or.inl ⟨by kernel_rfl, ?hyn11⟩) hHeld ?restn11
              case hyn11 => (intro w hSw; go_simp; first | done | (with_reducible rfl))
              try simp only [Act.put, List.append, List.getElem_toArray, List.getElem_cons_succ, List.getElem_cons_zero, List.setIfInBounds_toArray, set16]
              try simp only [List.set_cons_zero, List.set_cons_succ]
              refine wpAnyH_take (i := 11) (oi := _) (v := ?vn12) rfl (by kernel_rfl) (by kernel_rfl) (by kernel_rfl) (fun _ _ _ h => h) (Or.inl ⟨by kernel_rfl, ?hyn12⟩) hHeld ?restn12
              case hyn12 => (intro w hSw; go_simp; first | done | (with_reducible rfl))
              try simp only [Act.put, List.append, List.getElem_toArray, List.getElem_cons_succ, List.getElem_cons_zero, List.setIfInBounds_toArray, set16]
              try simp only [List.set_cons_zero, List.set_cons_succ]
              refine wpAnyH_take (i := 12) (oi := _) (v := ?vn13) rfl (by kernel_rfl) (by kernel_rfl) (by kernel_rfl) (fun _ _ _ h => h) (Or.inl ⟨by kernel_rfl, ?hyn13⟩) hHeld ?restn13
              case hyn13 => (intro w hSw; go_simp; first | done | (with_reducible rfl))
              try simp only [Act.put, List.append, List.getElem_toArray, List.getElem_cons_succ, List.getElem_cons_zero, List.setIfInBounds_toArray, set16]
              try simp only [List.set_cons_zero, List.set_cons_succ]
              refine wpAnyH_take (i := 13) (oi := _) (v := ?vn14) rfl (by kernel_rfl) (by kernel_rfl) (by kernel_rfl) (fun _ _ _ h => h) (Or.inl ⟨by kernel_rfl, ?hyn14⟩) hHeld ?restn14
              case hyn14 => (intro w hSw; go_simp; first | done | (with_reducible rfl))
              try simp only [Act.put, List.append, List.getElem_toArray, List.getElem_cons_succ, List.getElem_cons_zero, List.setIfInBounds_toArray, set16]
              try simp only [List.set_cons_zero, List.set_cons_succ]
              refine wpAnyH_take (i := 14) (oi := _) (v := ?vn15) rfl (by kernel_rfl) (by kernel_rfl) (by kernel_rfl) (fun _ _ _ h => h) (Or.inl ⟨by kernel_rfl, ?hyn15⟩) hHeld ?restn15
              case hyn15 => (intro w hSw; go_simp; first | done | (with_reducible rfl))
              try simp only [Act.put, List.append, List.getElem_toArray, List.getElem_cons_succ, List.getElem_cons_zero, List.setIfInBounds_toArray, set16]
              try simp only [List.set_cons_zero, List.set_cons_succ]
              refine wpAnyH_take (i := 15) (oi := _) (v := ?vn16) rfl (by kernel_rfl) (by kernel_rfl) (by kernel_rfl) (fun _ _ _ h => h) (Or.inl ⟨by kernel_rfl, ?hyn16⟩) hHeld ?restn16
              case hyn16 => (intro w hSw; go_simp; first | done | (with_reducible rfl))
              try simp only [Act.put, List.append, List.getElem_toArray, List.getElem_cons_succ, List.getElem_cons_zero, List.setIfInBounds_toArray, set16]
              try simp only [List.set_cons_zero, List.set_cons_succ]
              refine wpAnyH_take (i := 16) (oi := _) (v := ?vn17) rfl (by kernel_rfl) (by kernel_rfl) (by kernel_rfl) (fun _ _ _ h => h) (Or.inl ⟨by kernel_rfl, ?hyn17⟩) hHeld ?restn17
              case hyn17 => (intro w hSw; go_simp; first | done | (with_reducible rfl))
              try simp only [Act.put, List.append, List.getElem_toArray, List.getElem_cons_succ, List.getElem_cons_zero, List.setIfInBounds_toArray, set16]
              try simp only [List.set_cons_zero, List.set_cons_succ]
              refine wpAnyH_take (i := 17) (oi := _) (v := ?vn18) rfl (by kernel_rfl) (by kernel_rfl) (by kernel_rfl) (fun _ _ _ h => h) (Or.inl ⟨by kernel_rfl, ?hyn18⟩) hHeld ?restn18
              case hyn18 => (intro w hSw; go_simp; first | done | (with_reducible rfl))
              try simp only [Act.put, List.append, List.getElem_toArray, List.getElem_cons_succ, List.getElem_cons_zero, List.setIfInBounds_toArray, set16]
              try simp only [List.set_cons_zero, List.set_cons_succ]
              refine wpAnyH_take (i := 18) (oi := _) (v := ?vn19) rfl (by kernel_rfl) (by kernel_rfl) (by kernel_rfl) (fun _ _ _ h => h) (Or.inl ⟨by kernel_rfl, ?hyn19⟩) hHeld ?restn19
              case hyn19 => (intro w hSw; go_simp; first | done | (with_reducible rfl))
              try simp only [Act.put, List.append, List.getElem_toArray, List.getElem_cons_succ, List.getElem_cons_zero, List.setIfInBounds_toArray, set16]
              try simp only [List.set_cons_zero, List.set_cons_succ]
              refine wpAnyH_take (i := 19) (oi := _) (v := ?vn20) rfl (by kernel_rfl) (by kernel_rfl) (by kernel_rfl) (fun _ _ _ h => h) (Or.inl ⟨by kernel_rfl, ?hyn20⟩) hHeld ?restn20
              case hyn20 => (intro w hSw; have kc50 := keepC hSw c50; have kc51 := keepC hSw c51; have kc52 := keepC hSw c52; have kc90 := keepC hSw c90; have kc91 := keepC hSw c91; have kc92 := keepC hSw c92; have kcv0 := keepC hSw cv0; have kcv1 := keepC hSw cv1; have kcx0 := keepC hSw cx0; have kcx1 := keepC hSw cx1; have kcy0 := keepC hSw cy0; have kcy1 := keepC hSw cy1; go_simp; first | done | (with_reducible rfl))
              try simp only [Act.put, List.append, List.getElem_toArray, List.getElem_cons_succ, List.getElem_cons_zero, List.setIfInBounds_toArray, set16]
              try simp only [List.set_cons_zero, List.set_cons_succ]
              refine wpAnyH_ready (rs := [20, 21]) (by kernel_rfl) (by simp) (AllReadyH.cons (o := _) rfl (fun K hK => ?_) (AllReadyH.cons (o := _) rfl (fun K hK => ?_) AllReadyH.nil))
              · as_aux_lemma =>
                  go_simp
                  refine hK.out _ _ (below_al hHeld _) (fun hNew => ?_)
                  have hA : Vw27.heap.size ≤ wn0.heap.size := hHeld.size
                  clear hHeld hK K
                  have hHeld := hNew
                  clear hNew
                  try simp only [Act.put, List.append, List.getElem_toArray, List.getElem_cons_succ, List.getElem_cons_zero, List.setIfInBounds_toArray, set16]
                  try simp only [List.set_cons_zero, List.set_cons_succ]
                  refine at_anyH (fun v => Below Vw27.heap.size Vw27 v ∧ BK v wn0.heap.size [.int .i64 0, .int .i64 1, .int .i64 3, .int .i64 4]) ⟨hHeld, BK.new _ _ _⟩ (fun wn21 hS => ?_)
                  clear hHeld
                  obtain ⟨hHeld, BA⟩ := hS
                  refine wpAnyH_ready (rs := [21]) (by kernel_rfl) (by simp) (AllReadyH.cons (o := _) rfl (fun K hK => ?_) AllReadyH.nil)
                  go_simp
                  refine hK.out _ _ (below_al hHeld _) (fun hNew => ?_)
                  have hB : Vw27.heap.size ≤ wn21.heap.size := hHeld.size
                  have dAB := BA.lt
                  clear hHeld hK K
                  have hHeld := hNew
                  clear hNew
                  try simp only [Act.put, List.append, List.getElem_toArray, List.getElem_cons_succ, List.getElem_cons_zero, List.setIfInBounds_toArray, set16]
                  try simp only [List.set_cons_zero, List.set_cons_succ]
                  refine at_anyH (fun v => Below Vw27.heap.size Vw27 v ∧ BK v wn0.heap.size [.int .i64 0, .int .i64 1, .int .i64 3, .int .i64 4] ∧ BK v wn21.heap.size [.int .i64 2, .int .i64 0, .int .i64 3]) ⟨hHeld, BA.al _, BK.new _ _ _⟩ (fun wn22 hS => ?_)
                  clear hHeld BA
                  obtain ⟨hHeld, BA, BB⟩ := hS
                  refine wpAnyH_take (i := 22) (oi := _) (v := ?vn23) rfl (by kernel_rfl) (by kernel_rfl) (by kernel_rfl) (fun _ _ _ h => h) (Or.inl ⟨by kernel_rfl, ?hyn23⟩) hHeld ?restn23
                  case hyn23 => (intro w hSw; go_simp; first | done | (with_reducible rfl))
                  try simp only [Act.put, List.append, List.getElem_toArray, List.getElem_cons_succ, List.getElem_cons_zero, List.setIfInBounds_toArray, set16]
                  try simp only [List.set_cons_zero, List.set_cons_succ]
                  refine wpAnyH_ready (rs := [23]) (by kernel_rfl) (by simp) (AllReadyH.cons (o := _) rfl (fun K hK => ?_) AllReadyH.nil)
                  go_simp
                  refine (rckSame_any 4 _ [0, 1, 3, 4] _ _ [2, 0, 3] _ 4 _ [0, 1, 3, 4] _ _ [2, 0, 3] _ _ (hIp.keep hHeld) ⟨⟨by decide, by decide⟩, ⟨by simp [maxLen], by simp [maxLen]⟩, isI_bk (xs := [0, 1, 3, 4]) BA (by intro x hx; simp at hx; rcases hx with rfl | rfl | rfl | rfl <;> exact ⟨by decide, by decide⟩), isI_bk (xs := [2, 0, 3]) BB (by intro x hx; simp at hx; rcases hx with rfl | rfl | rfl <;> exact ⟨by decide, by decide⟩)⟩).mono ?_
                  rintro e wn24 ⟨rfl, hb3⟩
                  go_wp2_with fail
                  refine hK.out _ _ (keepB hHeld hb3) (fun hNew => ?_)
                  replace BA := BA.keep hb3
                  replace BB := BB.keep hb3
                  clear hb3
                  clear hHeld hK K
                  have hHeld := hNew
                  clear hNew
                  try simp only [Act.put, List.append, List.getElem_toArray, List.getElem_cons_succ, List.getElem_cons_zero, List.setIfInBounds_toArray, set16]
                  try simp only [List.set_cons_zero, List.set_cons_succ]
                  refine wpAnyH_take (i := 24) (oi := _) (v := ?vn25) rfl (by kernel_rfl) (by kernel_rfl) (by kernel_rfl) (fun _ _ _ h => h) (Or.inl ⟨by kernel_rfl, ?hyn25⟩) hHeld ?restn25
                  case hyn25 => (intro w hSw; go_simp; first | done | (with_reducible rfl))
                  try simp only [Act.put, List.append, List.getElem_toArray, List.getElem_cons_succ, List.getElem_cons_zero, List.setIfInBounds_toArray, set16]
                  try simp only [List.set_cons_zero, List.set_cons_succ]
                  refine wpAnyH_take (i := 25) (oi := _) (v := ?vn26) rfl (by kernel_rfl) (by kernel_rfl) (by kernel_rfl) (fun _ _ _ h => h) (Or.inl ⟨by kernel_rfl, ?hyn26⟩) hHeld ?restn26
                  case hyn26 => (intro w hSw; go_simp; first | done | (with_reducible rfl))
                  try simp only [Act.put, List.append, List.getElem_toArray, List.getElem_cons_succ, List.getElem_cons_zero, List.setIfInBounds_toArray, set16]
                  try simp only [List.set_cons_zero, List.set_cons_succ]
                  refine wpAnyH_take (i := 26) (oi := _) (v := ?vn27) rfl (by kernel_rfl) (by kernel_rfl) (by kernel_rfl) (fun _ _ _ h => h) (Or.inl ⟨by kernel_rfl, ?hyn27⟩) hHeld ?restn27
                  case hyn27 => (intro w hSw; go_simp; first | done | (with_reducible rfl))
                  try simp only [Act.put, List.append, List.getElem_toArray, List.getElem_cons_succ, List.getElem_cons_zero, List.setIfInBounds_toArray, set16]
                  try simp only [List.set_cons_zero, List.set_cons_succ]
                  refine wpAnyH_take (i := 27) (oi := _) (v := ?vn28) rfl (by kernel_rfl) (by kernel_rfl) (by kernel_rfl) (fun _ _ _ h => h) (Or.inl ⟨by kernel_rfl, ?hyn28⟩) hHeld ?restn28
                  case hyn28 => (intro w hSw; go_simp; first | done | (with_reducible rfl))
                  try simp only [Act.put, List.append, List.getElem_toArray, List.getElem_cons_succ, List.getElem_cons_zero, List.setIfInBounds_toArray, set16]
                  try simp only [List.set_cons_zero, List.set_cons_succ]
                  refine wpAnyH_take (i := 28) (oi := _) (v := ?vn29) rfl (by kernel_rfl) (by kernel_rfl) (by kernel_rfl) (fun _ _ _ h => h) (Or.inl ⟨by kernel_rfl, ?hyn29⟩) hHeld ?restn29
                  case hyn29 => (intro w hSw; go_simp; first | done | (with_reducible rfl))
                  try simp only [Act.put, List.append, List.getElem_toArray, List.getElem_cons_succ, List.getElem_cons_zero, List.setIfInBounds_toArray, set16]
                  try simp only [List.set_cons_zero, List.set_cons_succ]
                  refine wpAnyH_take (i := 29) (oi := _) (v := ?vn30) rfl (by kernel_rfl) (by kernel_rfl) (by kernel_rfl) (fun _ _ _ h => h) (Or.inl ⟨by kernel_rfl, ?hyn30⟩) hHeld ?restn30
                  case hyn30 => (intro w hSw; go_simp; first | done | (with_reducible rfl))
                  try simp only [Act.put, List.append, List.getElem_toArray, List.getElem_cons_succ, List.getElem_cons_zero, List.setIfInBounds_toArray, set16]
                  try simp only [List.set_cons_zero, List.set_cons_succ]
                  refine wpAnyH_take (i := 30) (oi := _) (v := ?vn31) rfl (by kernel_rfl) (by kernel_rfl) (by kernel_rfl) (fun _ _ _ h => h) (Or.inl ⟨by kernel_rfl, ?hyn31⟩) hHeld ?restn31
                  case hyn31 => (intro w hSw; go_simp; first | done | (with_reducible rfl))
                  try simp only [Act.put, List.append, List.getElem_toArray, List.getElem_cons_succ, List.getElem_cons_zero, List.setIfInBounds_toArray, set16]
                  try simp only [List.set_cons_zero, List.set_cons_succ]
                  refine wpAnyH_take (i := 31) (oi := _) (v := ?vn32) rfl (by kernel_rfl) (by kernel_rfl) (by kernel_rfl) (fun _ _ _ h => h) (Or.inl ⟨by kernel_rfl, ?hyn32⟩) hHeld ?restn32
                  case hyn32 => (intro w hSw; go_simp; first | done | (with_reducible rfl))
                  try simp only [Act.put, List.append, List.getElem_toArray, List.getElem_cons_succ, List.getElem_cons_zero, List.setIfInBounds_toArray, set16]
                  try simp only [List.set_cons_zero, List.set_cons_succ]
                  refine wpAnyH_take (i := 32) (oi := _) (v := ?vn33) rfl (by kernel_rfl) (by kernel_rfl) (by kernel_rfl) (fun _ _ _ h => h) (Or.inl ⟨by kernel_rfl, ?hyn33⟩) hHeld ?restn33
                  case hyn33 => (intro w hSw; go_simp; first | done | (with_reducible rfl))
                  try simp only [Act.put, List.append, List.getElem_toArray, List.getElem_cons_succ, List.getElem_cons_zero, List.setIfInBounds_toArray, set16]
                  try simp only [List.set_cons_zero, List.set_cons_succ]
                  refine wpAnyH_take (i := 33) (oi := _) (v := ?vn34) rfl (by kernel_rfl) (by kernel_rfl) (by kernel_rfl) (fun _ _ _ h => h) (Or.inl ⟨by kernel_rfl, ?hyn34⟩) hHeld ?restn34
                  case hyn34 => (intro w hSw; go_simp; first | done | (with_reducible rfl))
                  try simp only [Act.put, List.append, List.getElem_toArray, List.getElem_cons_succ, List.getElem_cons_zero, List.setIfInBounds_toArray, set16]
                  try simp only [List.set_cons_zero, List.set_cons_succ]
                  refine wpAnyH_take (i := 34) (oi := _) (v := ?vn35) rfl (by kernel_rfl) (by kernel_rfl) (by kernel_rfl) (fun _ _ _ h => h) (Or.inl ⟨by kernel_rfl, ?hyn35⟩) hHeld ?restn35
                  case hyn35 => (intro w hSw; have kc50 := keepC hSw c50; have kc51 := keepC hSw c51; have kc52 := keepC hSw c52; have kc90 := keepC hSw c90; have kc91 := keepC hSw c91; have kc92 := keepC hSw c92; have kcv0 := keepC hSw cv0; have kcv1 := keepC hSw cv1; have kcx0 := keepC hSw cx0; have kcx1 := keepC hSw cx1; have kcy0 := keepC hSw cy0; have kcy1 := keepC hSw cy1; go_simp; first | done | (with_reducible rfl))
                  try simp only [Act.put, List.append, List.getElem_toArray, List.getElem_cons_succ, List.getElem_cons_zero, List.setIfInBounds_toArray, set16]
                  try simp only [List.set_cons_zero, List.set_cons_succ]
                  refine wpAnyH_ready (rs := [35, 36]) (by kernel_rfl) (by simp) (AllReadyH.cons (o := _) rfl (fun K hK => ?_) (AllReadyH.cons (o := _) rfl (fun K hK => ?_) AllReadyH.nil))
                  · as_aux_lemma =>
                      go_simp
                      refine hK.out _ _ (below_al hHeld _) (fun hNew => ?_)
                      have hC : Vw27.heap.size ≤ wn24.heap.size := hHeld.size
                      have dAC := BA.lt
                      have dBC := BB.lt
                      clear hHeld hK K
                      have hHeld := hNew
                      clear hNew
                      try simp only [Act.put, List.append, List.getElem_toArray, List.getElem_cons_succ, List.getElem_cons_zero, List.setIfInBounds_toArray, set16]
                      try simp only [List.set_cons_zero, List.set_cons_succ]
                      refine at_anyH (fun v => Below Vw27.heap.size Vw27 v ∧ BK v wn0.heap.size [.int .i64 0, .int .i64 1, .int .i64 3, .int .i64 4] ∧ BK v wn21.heap.size [.int .i64 2, .int .i64 0, .int .i64 3] ∧ BK v wn24.heap.size [.int .i64 0, .int .i64 2, .int .i64 4]) ⟨hHeld, BA.al _, BB.al _, BK.new _ _ _⟩ (fun wn36 hS => ?_)
                      clear hHeld BA BB
                      obtain ⟨hHeld, BA, BB, BC⟩ := hS
                      refine wpAnyH_ready (rs := [36]) (by kernel_rfl) (by simp) (AllReadyH.cons (o := _) rfl (fun K hK => ?_) AllReadyH.nil)
                      go_simp
                      refine hK.out _ _ (below_al hHeld _) (fun hNew => ?_)
                      have hD : Vw27.heap.size ≤ wn36.heap.size := hHeld.size
                      have dAD := BA.lt
                      have dBD := BB.lt
                      have dCD := BC.lt
                      clear hHeld hK K
                      have hHeld := hNew
                      clear hNew
                      try simp only [Act.put, List.append, List.getElem_toArray, List.getElem_cons_succ, List.getElem_cons_zero, List.setIfInBounds_toArray, set16]
                      try simp only [List.set_cons_zero, List.set_cons_succ]
                      refine at_anyH (fun v => Below Vw27.heap.size Vw27 v ∧ BK v wn0.heap.size [.int .i64 0, .int .i64 1, .int .i64 3, .int .i64 4] ∧ BK v wn21.heap.size [.int .i64 2, .int .i64 0, .int .i64 3] ∧ BK v wn24.heap.size [.int .i64 0, .int .i64 2, .int .i64 4] ∧ BK v wn36.heap.size [.int .i64 1, .int .i64 0]) ⟨hHeld, BA.al _, BB.al _, BC.al _, BK.new _ _ _⟩ (fun wn37 hS => ?_)
                      clear hHeld BA BB BC
                      obtain ⟨hHeld, BA, BB, BC, BD⟩ := hS
                      refine wpAnyH_take (i := 37) (oi := _) (v := ?vn38) rfl (by kernel_rfl) (by kernel_rfl) (by kernel_rfl) (fun _ _ _ h => h) (Or.inl ⟨by kernel_rfl, ?hyn38⟩) hHeld ?restn38
                      case hyn38 => (intro w hSw; go_simp; first | done | (with_reducible rfl))
                      try simp only [Act.put, List.append, List.getElem_toArray, List.getElem_cons_succ, List.getElem_cons_zero, List.setIfInBounds_toArray, set16]
                      try simp only [List.set_cons_zero, List.set_cons_succ]
                      refine wpAnyH_ready (rs := [38]) (by kernel_rfl) (by simp) (AllReadyH.cons (o := _) rfl (fun K hK => ?_) AllReadyH.nil)
                      go_simp
                      refine (rckSame_any 4 _ [0, 2, 4] _ _ [1, 0] _ 4 _ [0, 2, 4] _ _ [1, 0] _ _ (hIn.keep hHeld) ⟨⟨by decide, by decide⟩, ⟨by simp [maxLen], by simp [maxLen]⟩, isI_bk (xs := [0, 2, 4]) BC (by intro x hx; simp at hx; rcases hx with rfl | rfl | rfl <;> exact ⟨by decide, by decide⟩), isI_bk (xs := [1, 0]) BD (by intro x hx; simp at hx; rcases hx with rfl | rfl <;> exact ⟨by decide, by decide⟩)⟩).mono ?_
                      rintro e wn39 ⟨rfl, hb3⟩
                      go_wp2_with fail
                      refine hK.out _ _ (keepB hHeld hb3) (fun hNew => ?_)
                      replace BA := BA.keep hb3
                      replace BB := BB.keep hb3
                      replace BC := BC.keep hb3
                      replace BD := BD.keep hb3
                      clear hb3
                      clear hHeld hK K
                      have hHeld := hNew
                      clear hNew
                      try simp only [Act.put, List.append, List.getElem_toArray, List.getElem_cons_succ, List.getElem_cons_zero, List.setIfInBounds_toArray, set16]
                      try simp only [List.set_cons_zero, List.set_cons_succ]
                      refine wpAnyH_take (i := 39) (oi := _) (v := ?vn40) rfl (by kernel_rfl) (by kernel_rfl) (by kernel_rfl) (fun _ _ _ h => h) (Or.inl ⟨by kernel_rfl, ?hyn40⟩) hHeld ?restn40
                      case hyn40 => (intro w hSw; go_simp; first | done | (with_reducible rfl))
                      try simp only [Act.put, List.append, List.getElem_toArray, List.getElem_cons_succ, List.getElem_cons_zero, List.setIfInBounds_toArray, set16]
                      try simp only [List.set_cons_zero, List.set_cons_succ]
                      refine wpAnyH_take (i := 40) (oi := _) (v := ?vn41) rfl (by kernel_rfl) (by kernel_rfl) (by kernel_rfl) (fun _ _ _ h => h) (Or.inl ⟨by kernel_rfl, ?hyn41⟩) hHeld ?restn41
                      case hyn41 => (intro w hSw; go_simp; first | done | (with_reducible rfl))
                      try simp only [Act.put, List.append, List.getElem_toArray, List.getElem_cons_succ, List.getElem_cons_zero, List.setIfInBounds_toArray, set16]
                      try simp only [List.set_cons_zero, List.set_cons_succ]
                      refine wpAnyH_take (i := 41) (oi := _) (v := ?vn42) rfl (by kernel_rfl) (by kernel_rfl) (by kernel_rfl) (fun _ _ _ h => h) (Or.inl ⟨by kernel_rfl, ?hyn42⟩) hHeld ?restn42
                      case hyn42 => (intro w hSw; go_simp; first | done | (with_reducible rfl))
                      try simp only [Act.put, List.append, List.getElem_toArray, List.getElem_cons_succ, List.getElem_cons_zero, List.setIfInBounds_toArray, set16]
                      try simp only [List.set_cons_zero, List.set_cons_succ]
                      refine wpAnyH_take (i := 42) (oi := _) (v := ?vn43) rfl (by kernel_rfl) (by kernel_rfl) (by kernel_rfl) (fun _ _ _ h => h) (Or.inl ⟨by kernel_rfl, ?hyn43⟩) hHeld ?restn43
                      case hyn43 => (intro w hSw; go_simp; first | done | (with_reducible rfl))
                      try simp only [Act.put, List.append, List.getElem_toArray, List.getElem_cons_succ, List.getElem_cons_zero, List.setIfInBounds_toArray, set16]
                      try simp only [List.set_cons_zero, List.set_cons_succ]
                      refine wpAnyH_take (i := 43) (oi := _) (v := ?vn44) rfl (by kernel_rfl) (by kernel_rfl) (by kernel_rfl) (fun _ _ _ h => h) (Or.inl ⟨by kernel_rfl, ?hyn44⟩) hHeld ?restn44
                      case hyn44 => (intro w hSw; go_simp; first | done | (with_reducible rfl))
                      try simp only [Act.put, List.append, List.getElem_toArray, List.getElem_cons_succ, List.getElem_cons_zero, List.setIfInBounds_toArray, set16]
                      try simp only [List.set_cons_zero, List.set_cons_succ]
                      refine wpAnyH_take (i := 44) (oi := _) (v := ?vn45) rfl (by kernel_rfl) (by kernel_rfl) (by kernel_rfl) (fun _ _ _ h => h) (Or.inl ⟨by kernel_rfl, ?hyn45⟩) hHeld ?restn45
                      case hyn45 => (intro w hSw; go_simp; first | done | (with_reducible rfl))
                      try simp only [Act.put, List.append, List.getElem_toArray, List.getElem_cons_succ, List.getElem_cons_zero, List.setIfInBounds_toArray, set16]
                      try simp only [List.set_cons_zero, List.set_cons_succ]
                      refine wpAnyH_take (i := 45) (oi := _) (v := ?vn46) rfl (by kernel_rfl) (by kernel_rfl) (by kernel_rfl) (fun _ _ _ h => h) (Or.inl ⟨by kernel_rfl, ?hyn46⟩) hHeld ?restn46
                      case hyn46 => (intro w hSw; have kc50 := keepC hSw c50; have kc51 := keepC hSw c51; have kc52 := keepC hSw c52; have kc90 := keepC hSw c90; have kc91 := keepC hSw c91; have kc92 := keepC hSw c92; have kcv0 := keepC hSw cv0; have kcv1 := keepC hSw cv1; have kcx0 := keepC hSw cx0; have kcx1 := keepC hSw cx1; have kcy0 := keepC hSw cy0; have kcy1 := keepC hSw cy1; go_simp; first | done | (with_reducible rfl))
                      try simp only [Act.put, List.append, List.getElem_toArray, List.getElem_cons_succ, List.getElem_cons_zero, List.setIfInBounds_toArray, set16]
                      try simp only [List.set_cons_zero, List.set_cons_succ]
                      refine wpAnyH_take (i := 46) (oi := _) (v := ?vn47) rfl (by kernel_rfl) (by kernel_rfl) (by kernel_rfl) (fun _ _ _ h => h) (Or.inl ⟨by kernel_rfl, ?hyn47⟩) hHeld ?restn47
                      case hyn47 => (intro w hSw; go_simp; first | done | (with_reducible rfl))
                      try simp only [Act.put, List.append, List.getElem_toArray, List.getElem_cons_succ, List.getElem_cons_zero, List.setIfInBounds_toArray, set16]
                      try simp only [List.set_cons_zero, List.set_cons_succ]
                      refine wpAnyH_take (i := 47) (oi := _) (v := ?vn48) rfl (by kernel_rfl) (by kernel_rfl) (by kernel_rfl) (fun _ _ _ h => h) (Or.inl ⟨by kernel_rfl, ?hyn48⟩) hHeld ?restn48
                      case hyn48 => (intro w hSw; go_simp; first | done | (with_reducible rfl))
                      try simp only [Act.put, List.append, List.getElem_toArray, List.getElem_cons_succ, List.getElem_cons_zero, List.setIfInBounds_toArray, set16]
                      try simp only [List.set_cons_zero, List.set_cons_succ]
                      refine wpAnyH_take (i := 48) (oi := _) (v := ?vn49) rfl (by kernel_rfl) (by kernel_rfl) (by kernel_rfl) (fun _ _ _ h => h) (Or.inl ⟨by kernel_rfl, ?hyn49⟩) hHeld ?restn49
                      case hyn49 => (intro w hSw; go_simp; first | done | (with_reducible rfl))
                      try simp only [Act.put, List.append, List.getElem_toArray, List.getElem_cons_succ, List.getElem_cons_zero, List.setIfInBounds_toArray, set16]
                      try simp only [List.set_cons_zero, List.set_cons_succ]
                      refine wpAnyH_take (i := 49) (oi := _) (v := ?vn50) rfl (by kernel_rfl) (by kernel_rfl) (by kernel_rfl) (fun _ _ _ h => h) (Or.inl ⟨by kernel_rfl, ?hyn50⟩) hHeld ?restn50
                      case hyn50 => (intro w hSw; go_simp; first | done | (with_reducible rfl))
                      try simp only [Act.put, List.append, List.getElem_toArray, List.getElem_cons_succ, List.getElem_cons_zero, List.setIfInBounds_toArray, set16]
                      try simp only [List.set_cons_zero, List.set_cons_succ]
                      refine wpAnyH_take (i := 50) (oi := _) (v := ?vn51) rfl (by kernel_rfl) (by kernel_rfl) (by kernel_rfl) (fun _ _ _ h => h) (Or.inl ⟨by kernel_rfl, ?hyn51⟩) hHeld ?restn51
                      case hyn51 => (intro w hSw; go_simp; first | done | (with_reducible rfl))
                      try simp only [Act.put, List.append, List.getElem_toArray, List.getElem_cons_succ, List.getElem_cons_zero, List.setIfInBounds_toArray, set16]
                      try simp only [List.set_cons_zero, List.set_cons_succ]
                      refine wpAnyH_take (i := 51) (oi := _) (v := ?vn52) rfl (by kernel_rfl) (by kernel_rfl) (by kernel_rfl) (fun _ _ _ h => h) (Or.inl ⟨by kernel_rfl, ?hyn52⟩) hHeld ?restn52
                      case hyn52 => (intro w hSw; go_simp; first | done | (with_reducible rfl))
                      try simp only [Act.put, List.append, List.getElem_toArray, List.getElem_cons_succ, List.getElem_cons_zero, List.setIfInBounds_toArray, set16]
                      try simp only [List.set_cons_zero, List.set_cons_succ]
                      refine wpAnyH_take (i := 52) (oi := _) (v := ?vn53) rfl (by kernel_rfl) (by kernel_rfl) (by kernel_rfl) (fun _ _ _ h => h) (Or.inl ⟨by kernel_rfl, ?hyn53⟩) hHeld ?restn53
                      case hyn53 => (intro w hSw; go_simp; first | done | (with_reducible rfl))
                      try simp only [Act.put, List.append, List.getElem_toArray, List.getElem_cons_succ, List.getElem_cons_zero, List.setIfInBounds_toArray, set16]
                      try simp only [List.set_cons_zero, List.set_cons_succ]
                      refine wpAnyH_take (i := 53) (oi := _) (v := ?vn54) rfl (by kernel_rfl) (by kernel_rfl) (by kernel_rfl) (fun _ _ _ h => h) (Or.inl ⟨by kernel_rfl, ?hyn54⟩) hHeld ?restn54
                      case hyn54 => (intro w hSw; go_simp; first | done | (with_reducible rfl))
                      try simp only [Act.put, List.append, List.getElem_toArray, List.getElem_cons_succ, List.getElem_cons_zero, List.setIfInBounds_toArray, set16]
                      try simp only [List.set_cons_zero, List.set_cons_succ]
                      refine wpAnyH_take (i := 54) (oi := _) (v := ?vn55) rfl (by kernel_rfl) (by kernel_rfl) (by kernel_rfl) (fun _ _ _ h => h) (Or.inl ⟨by kernel_rfl, ?hyn55⟩) hHeld ?restn55
                      case hyn55 => (intro w hSw; have kc50 := keepC hSw c50; have kc51 := keepC hSw c51; have kc52 := keepC hSw c52; have kc90 := keepC hSw c90; have kc91 := keepC hSw c91; have kc92 := keepC hSw c92; have kcv0 := keepC hSw cv0; have kcv1 := keepC hSw cv1; have kcx0 := keepC hSw cx0; have kcx1 := keepC hSw cx1; have kcy0 := keepC hSw cy0; have kcy1 := keepC hSw cy1; go_simp; first | done | (with_reducible rfl))
                      try simp only [Act.put, List.append, List.getElem_toArray, List.getElem_cons_succ, List.getElem_cons_zero, List.setIfInBounds_toArray, set16]
                      try simp only [List.set_cons_zero, List.set_cons_succ]
                      refine wpAnyH_ready (rs := [55]) (by kernel_rfl) (by simp) (AllReadyH.cons (o := _) rfl (fun K hK => ?_) AllReadyH.nil)
                      go_simp
                      refine (of2_any _ _).mono ?_
                      rintro e wn56 ⟨rfl, hb3⟩
                      go_wp2_with fail
                      refine hK.out _ _ (keepB hHeld hb3) (fun hNew => ?_)
                      replace BA := BA.keep hb3
                      replace BB := BB.keep hb3
                      replace BC := BC.keep hb3
                      replace BD := BD.keep hb3
                      clear hb3
                      clear hHeld hK K
                      have hHeld := hNew
                      clear hNew
                      try simp only [Act.put, List.append, List.getElem_toArray, List.getElem_cons_succ, List.getElem_cons_zero, List.setIfInBounds_toArray, set16]
                      try simp only [List.set_cons_zero, List.set_cons_succ]
                      refine wpAnyH_take (i := 56) (oi := _) (v := ?vn57) rfl (by kernel_rfl) (by kernel_rfl) (by kernel_rfl) (fun _ _ _ h => h) (Or.inl ⟨by kernel_rfl, ?hyn57⟩) hHeld ?restn57
                      case hyn57 => (intro w hSw; go_simp; first | done | (with_reducible rfl))
                      try simp only [Act.put, List.append, List.getElem_toArray, List.getElem_cons_succ, List.getElem_cons_zero, List.setIfInBounds_toArray, set16]
                      try simp only [List.set_cons_zero, List.set_cons_succ]
                      refine wpAnyH_take (i := 57) (oi := _) (v := ?vn58) rfl (by kernel_rfl) (by kernel_rfl) (by kernel_rfl) (fun _ _ _ h => h) (Or.inl ⟨by kernel_rfl, ?hyn58⟩) hHeld ?restn58
                      case hyn58 => (intro w hSw; go_simp; first | done | (with_reducible rfl))
                      try simp only [Act.put, List.append, List.getElem_toArray, List.getElem_cons_succ, List.getElem_cons_zero, List.setIfInBounds_toArray, set16]
                      try simp only [List.set_cons_zero, List.set_cons_succ]
                      refine wpAnyH_take (i := 58) (oi := _) (v := ?vn59) rfl (by kernel_rfl) (by kernel_rfl) (by kernel_rfl) (fun _ _ _ h => h) (Or.inl ⟨by kernel_rfl, ?hyn59⟩) hHeld ?restn59
                      case hyn59 => (intro w hSw; go_simp; first | done | (with_reducible rfl))
                      try simp only [Act.put, List.append, List.getElem_toArray, List.getElem_cons_succ, List.getElem_cons_zero, List.setIfInBounds_toArray, set16]
                      try simp only [List.set_cons_zero, List.set_cons_succ]
                      refine wpAnyH_take (i := 59) (oi := _) (v := ?vn60) rfl (by kernel_rfl) (by kernel_rfl) (by kernel_rfl) (fun _ _ _ h => h) (Or.inl ⟨by kernel_rfl, ?hyn60⟩) hHeld ?restn60
                      case hyn60 => (intro w hSw; go_simp; first | done | (with_reducible rfl))
                      try simp only [Act.put, List.append, List.getElem_toArray, List.getElem_cons_succ, List.getElem_cons_zero, List.setIfInBounds_toArray, set16]
                      try simp only [List.set_cons_zero, List.set_cons_succ]
                      refine wpAnyH_take (i := 60) (oi := _) (v := ?vn61) rfl (by kernel_rfl) (by kernel_rfl) (by kernel_rfl) (fun _ _ _ h => h) (Or.inl ⟨by kernel_rfl, ?hyn61⟩) hHeld ?restn61
                      case hyn61 => (intro w hSw; go_simp; first | done | (with_reducible rfl))
                      try simp only [Act.put, List.append, List.getElem_toArray, List.getElem_cons_succ, List.getElem_cons_zero, List.setIfInBounds_toArray, set16]
                      try simp only [List.set_cons_zero, List.set_cons_succ]
                      refine wpAnyH_take (i := 61) (oi := _) (v := ?vn62) rfl (by kernel_rfl) (by kernel_rfl) (by kernel_rfl) (fun _ _ _ h => h) (Or.inl ⟨by kernel_rfl, ?hyn62⟩) hHeld ?restn62
                      case hyn62 => (intro w hSw; go_simp; first | done | (with_reducible rfl))
                      try simp only [Act.put, List.append, List.getElem_toArray, List.getElem_cons_succ, List.getElem_cons_zero, List.setIfInBounds_toArray, set16]
                      try simp only [List.set_cons_zero, List.set_cons_succ]
                      refine wpAnyH_take (i := 62) (oi := _) (v := ?vn63) rfl (by kernel_rfl) (by kernel_rfl) (by kernel_rfl) (fun _ _ _ h => h) (Or.inl ⟨by kernel_rfl, ?hyn63⟩) hHeld ?restn63
                      case hyn63 => (intro w hSw; go_simp; first | done | (with_reducible rfl))
                      try simp only [Act.put, List.append, List.getElem_toArray, List.getElem_cons_succ, List.getElem_cons_zero, List.setIfInBounds_toArray, set16]
                      try simp only [List.set_cons_zero, List.set_cons_succ]
                      refine wpAnyH_take (i := 63) (oi := _) (v := ?vn64) rfl (by kernel_rfl) (by kernel_rfl) (by kernel_rfl) (fun _ _ _ h => h) (Or.inl ⟨by kernel_rfl, ?hyn64⟩) hHeld ?restn64
                      case hyn64 => (intro w hSw; have kc50 := keepC hSw c50; have kc51 := keepC hSw c51; have kc52 := keepC hSw c52; have kc90 := keepC hSw c90; have kc91 := keepC hSw c91; have kc92 := keepC hSw c92; have kcv0 := keepC hSw cv0; have kcv1 := keepC hSw cv1; have kcx0 := keepC hSw cx0; have kcx1 := keepC hSw cx1; have kcy0 := keepC hSw cy0; have kcy1 := keepC hSw cy1; go_simp; first | done | (with_reducible rfl))
                      try simp only [Act.put, List.append, List.getElem_toArray, List.getElem_cons_succ, List.getElem_cons_zero, List.setIfInBounds_toArray, set16]
                      try simp only [List.set_cons_zero, List.set_cons_succ]
                      refine wpAnyH_ready (rs := [64]) (by kernel_rfl) (by simp) (AllReadyH.cons (o := _) rfl (fun K hK => ?_) AllReadyH.nil)
                      go_simp
                      refine (of2_any _ _).mono ?_
                      rintro e wn65 ⟨rfl, hb3⟩
                      go_wp2_with fail
                      refine hK.out _ _ (keepB hHeld hb3) (fun hNew => ?_)
                      replace BA := BA.keep hb3
                      replace BB := BB.keep hb3
                      replace BC := BC.keep hb3
                      replace BD := BD.keep hb3
                      clear hb3
                      clear hHeld hK K
                      have hHeld := hNew
                      clear hNew
                      try simp only [Act.put, List.append, List.getElem_toArray, List.getElem_cons_succ, List.getElem_cons_zero, List.setIfInBounds_toArray, set16]
                      try simp only [List.set_cons_zero, List.set_cons_succ]
                      refine wpAnyH_take (i := 65) (oi := _) (v := ?vn66) rfl (by kernel_rfl) (by kernel_rfl) (by kernel_rfl) (fun _ _ _ h => h) (Or.inl ⟨by kernel_rfl, ?hyn66⟩) hHeld ?restn66
                      case hyn66 => (intro w hSw; go_simp; first | done | (with_reducible rfl))
                      try simp only [Act.put, List.append, List.getElem_toArray, List.getElem_cons_succ, List.getElem_cons_zero, List.setIfInBounds_toArray, set16]
                      try simp only [List.set_cons_zero, List.set_cons_succ]
                      refine wpAnyH_take (i := 66) (oi := _) (v := ?vn67) rfl (by kernel_rfl) (by kernel_rfl) (by kernel_rfl) (fun _ _ _ h => h) (Or.inl ⟨by kernel_rfl, ?hyn67⟩) hHeld ?restn67
                      case hyn67 => (intro w hSw; go_simp; first | done | (with_reducible rfl))
                      try simp only [Act.put, List.append, List.getElem_toArray, List.getElem_cons_succ, List.getElem_cons_zero, List.setIfInBounds_toArray, set16]
                      try simp only [List.set_cons_zero, List.set_cons_succ]
                      refine wpAnyH_take (i := 67) (oi := _) (v := ?vn68) rfl (by kernel_rfl) (by kernel_rfl) (by kernel_rfl) (fun _ _ _ h => h) (Or.inl ⟨by kernel_rfl, ?hyn68⟩) hHeld ?restn68
                      case hyn68 => (intro w hSw; go_simp; first | done | (with_reducible rfl))
                      try simp only [Act.put, List.append, List.getElem_toArray, List.getElem_cons_succ, List.getElem_cons_zero, List.setIfInBounds_toArray, set16]
                      try simp only [List.set_cons_zero, List.set_cons_succ]
                      refine wpAnyH_done (by kernel_rfl) ?_ _
                      go_wp2_with fail
                      go_meet
                      exact ⟨rfl, hHeld⟩
                  · as_aux_lemma =>
                      go_simp
                      refine hK.out _ _ (below_al hHeld _) (fun hNew => ?_)
                      have hD : Vw27.heap.size ≤ wn24.heap.size := hHeld.size
                      have dAD := BA.lt
                      have dBD := BB.lt
                      clear hHeld hK K
                      have hHeld := hNew
                      clear hNew
                      try simp only [Act.put, List.append, List.getElem_toArray, List.getElem_cons_succ, List.getElem_cons_zero, List.setIfInBounds_toArray, set16]
                      try simp only [List.set_cons_zero, List.set_cons_succ]
                      refine at_anyH (fun v => Below Vw27.heap.size Vw27 v ∧ BK v wn0.heap.size [.int .i64 0, .int .i64 1, .int .i64 3, .int .i64 4] ∧ BK v wn21.heap.size [.int .i64 2, .int .i64 0, .int .i64 3] ∧ BK v wn24.heap.size [.int .i64 1, .int .i64 0]) ⟨hHeld, BA.al _, BB.al _, BK.new _ _ _⟩ (fun wn69 hS => ?_)
                      clear hHeld BA BB
                      obtain ⟨hHeld, BA, BB, BD⟩ := hS
                      refine wpAnyH_ready (rs := [35]) (by kernel_rfl) (by simp) (AllReadyH.cons (o := _) rfl (fun K hK => ?_) AllReadyH.nil)
                      go_simp
                      refine hK.out _ _ (below_al hHeld _) (fun hNew => ?_)
                      have hC : Vw27.heap.size ≤ wn69.heap.size := hHeld.size
                      have dAC := BA.lt
                      have dBC := BB.lt
                      have dDC := BD.lt
                      clear hHeld hK K
                      have hHeld := hNew
                      clear hNew
                      try simp only [Act.put, List.append, List.getElem_toArray, List.getElem_cons_succ, List.getElem_cons_zero, List.setIfInBounds_toArray, set16]
                      try simp only [List.set_cons_zero, List.set_cons_succ]
                      refine at_anyH (fun v => Below Vw27.heap.size Vw27 v ∧ BK v wn0.heap.size [.int .i64 0, .int .i64 1, .int .i64 3, .int .i64 4] ∧ BK v wn21.heap.size [.int .i64 2, .int .i64 0, .int .i64 3] ∧ BK v wn24.heap.size [.int .i64 1, .int .i64 0] ∧ BK v wn69.heap.size [.int .i64 0, .int .i64 2, .int .i64 4]) ⟨hHeld, BA.al _, BB.al _, BD.al _, BK.new _ _ _⟩ (fun wn70 hS => ?_)
                      clear hHeld BA BB BD
                      obtain ⟨hHeld, BA, BB, BD, BC⟩ := hS
                      refine wpAnyH_take (i := 37) (oi := _) (v := ?vn71) rfl (by kernel_rfl) (by kernel_rfl) (by kernel_rfl) (fun _ _ _ h => h) (Or.inl ⟨by kernel_rfl, ?hyn71⟩) hHeld ?restn71
                      case hyn71 => (intro w hSw; go_simp; first | done | (with_reducible rfl))
                      try simp only [Act.put, List.append, List.getElem_toArray, List.getElem_cons_succ, List.getElem_cons_zero, List.setIfInBounds_toArray, set16]
                      try simp only [List.set_cons_zero, List.set_cons_succ]
                      refine wpAnyH_ready (rs := [38]) (by kernel_rfl) (by simp) (AllReadyH.cons (o := _) rfl (fun K hK => ?_) AllReadyH.nil)
                      go_simp
                      refine (rckSame_any 4 _ [0, 2, 4] _ _ [1, 0] _ 4 _ [0, 2, 4] _ _ [1, 0] _ _ (hIn.keep hHeld) ⟨⟨by decide, by decide⟩, ⟨by simp [maxLen], by simp [maxLen]⟩, isI_bk (xs := [0, 2, 4]) BC (by intro x hx; simp at hx; rcases hx with rfl | rfl | rfl <;> exact ⟨by decide, by decide⟩), isI_bk (xs := [1, 0]) BD (by intro x hx; simp at hx; rcases hx with rfl | rfl <;> exact ⟨by decide, by decide⟩)⟩).mono ?_
                      rintro e wn72 ⟨rfl, hb3⟩
                      go_wp2_with fail
                      refine hK.out _ _ (keepB hHeld hb3) (fun hNew => ?_)
                      replace BA := BA.keep hb3
                      replace BB := BB.keep hb3
                      replace BD := BD.keep hb3
                      replace BC := BC.keep hb3
                      clear hb3
                      clear hHeld hK K
                      have hHeld := hNew
                      clear hNew
                      try simp only [Act.put, List.append, List.getElem_toArray, List.getElem_cons_succ, List.getElem_cons_zero, List.setIfInBounds_toArray, set16]
                      try simp only [List.set_cons_zero, List.set_cons_succ]
                      refine wpAnyH_take (i := 39) (oi := _) (v := ?vn73) rfl (by kernel_rfl) (by kernel_rfl) (by kernel_rfl) (fun _ _ _ h => h) (Or.inl ⟨by kernel_rfl, ?hyn73⟩) hHeld ?restn73
                      case hyn73 => (intro w hSw; go_simp; first | done | (with_reducible rfl))
                      try simp only [Act.put, List.append, List.getElem_toArray, List.getElem_cons_succ, List.getElem_cons_zero, List.setIfInBounds_toArray, set16]
                      try simp only [List.set_cons_zero, List.set_cons_succ]
                      refine wpAnyH_take (i := 40) (oi := _) (v := ?vn74) rfl (by kernel_rfl) (by kernel_rfl) (by kernel_rfl) (fun _ _ _ h => h) (Or.inl ⟨by kernel_rfl, ?hyn74⟩) hHeld ?restn74
                      case hyn74 => (intro w hSw; go_simp; first | done | (with_reducible rfl))
                      try simp only [Act.put, List.append, List.getElem_toArray, List.getElem_cons_succ, List.getElem_cons_zero, List.setIfInBounds_toArray, set16]
                      try simp only [List.set_cons_zero, List.set_cons_succ]
                      refine wpAnyH_take (i := 41) (oi := _) (v := ?vn75) rfl (by kernel_rfl) (by kernel_rfl) (by kernel_rfl) (fun _ _ _ h => h) (Or.inl ⟨by kernel_rfl, ?hyn75⟩) hHeld ?restn75
                      case hyn75 => (intro w hSw; go_simp; first | done | (with_reducible rfl))
                      try simp only [Act.put, List.append, List.getElem_toArray, List.getElem_cons_succ, List.getElem_cons_zero, List.setIfInBounds_toArray, set16]
                      try simp only [List.set_cons_zero, List.set_cons_succ]
                      refine wpAnyH_take (i := 42) (oi := _) (v := ?vn76) rfl (by kernel_rfl) (by kernel_rfl) (by kernel_rfl) (fun _ _ _ h => h) (Or.inl ⟨by kernel_rfl, ?hyn76⟩) hHeld ?restn76
                      case hyn76 => (intro w hSw; go_simp; first | done | (with_reducible rfl))
                      try simp only [Act.put, List.append, List.getElem_toArray, List.getElem_cons_succ, List.getElem_cons_zero, List.setIfInBounds_toArray, set16]
                      try simp only [List.set_cons_zero, List.set_cons_succ]
                      refine wpAnyH_take (i := 43) (oi := _) (v := ?vn77) rfl (by kernel_rfl) (by kernel_rfl) (by kernel_rfl) (fun _ _ _ h => h) (Or.inl ⟨by kernel_rfl, ?hyn77⟩) hHeld ?restn77
                      case hyn77 => (intro w hSw; go_simp; first | done | (with_reducible rfl))
                      try simp only [Act.put, List.append, List.getElem_toArray, List.getElem_cons_succ, List.getElem_cons_zero, List.setIfInBounds_toArray, set16]
                      try simp only [List.set_cons_zero, List.set_cons_succ]
                      refine wpAnyH_take (i := 44) (oi := _) (v := ?vn78) rfl (by kernel_rfl) (by kernel_rfl) (by kernel_rfl) (fun _ _ _ h => h) (Or.inl ⟨by kernel_rfl, ?hyn78⟩) hHeld ?restn78
                      case hyn78 => (intro w hSw; go_simp; first | done | (with_reducible rfl))
                      try simp only [Act.put, List.append, List.getElem_toArray, List.getElem_cons_succ, List.getElem_cons_zero, List.setIfInBounds_toArray, set16]
                      try simp only [List.set_cons_zero, List.set_cons_succ]
                      refine wpAnyH_take (i := 45) (oi := _) (v := ?vn79) rfl (by kernel_rfl) (by kernel_rfl) (by kernel_rfl) (fun _ _ _ h => h) (Or.inl ⟨by kernel_rfl, ?hyn79⟩) hHeld ?restn79
                      case hyn79 => (intro w hSw; have kc50 := keepC hSw c50; have kc51 := keepC hSw c51; have kc52 := keepC hSw c52; have kc90 := keepC hSw c90; have kc91 := keepC hSw c91; have kc92 := keepC hSw c92; have kcv0 := keepC hSw cv0; have kcv1 := keepC hSw cv1; have kcx0 := keepC hSw cx0; have kcx1 := keepC hSw cx1; have kcy0 := keepC hSw cy0; have kcy1 := keepC hSw cy1; go_simp; first | done | (with_reducible rfl))
                      try simp only [Act.put, List.append, List.getElem_toArray, List.getElem_cons_succ, List.getElem_cons_zero, List.setIfInBounds_toArray, set16]
                      try simp only [List.set_cons_zero, List.set_cons_succ]
                      refine wpAnyH_take (i := 46) (oi := _) (v := ?vn80) rfl (by kernel_rfl) (by kernel_rfl) (by kernel_rfl) (fun _ _ _ h => h) (Or.inl ⟨by kernel_rfl, ?hyn80⟩) hHeld ?restn80
                      case hyn80 => (intro w hSw; go_simp; first | done | (with_reducible rfl))
                      try simp only [Act.put, List.append, List.getElem_toArray, List.getElem_cons_succ, List.getElem_cons_zero, List.setIfInBounds_toArray, set16]
                      try simp only [List.set_cons_zero, List.set_cons_succ]
                      refine wpAnyH_take (i := 47) (oi := _) (v := ?vn81) rfl (by kernel_rfl) (by kernel_rfl) (by kernel_rfl) (fun _ _ _ h => h) (Or.inl ⟨by kernel_rfl, ?hyn81⟩) hHeld ?restn81
                      case hyn81 => (intro w hSw; go_simp; first | done | (with_reducible rfl))
                      try simp only [Act.put, List.append, List.getElem_toArray, List.getElem_cons_succ, List.getElem_cons_zero, List.setIfInBounds_toArray, set16]
                      try simp only [List.set_cons_zero, List.set_cons_succ]
                      refine wpAnyH_take (i := 48) (oi := _) (v := ?vn82) rfl (by kernel_rfl) (by kernel_rfl) (by kernel_rfl) (fun _ _ _ h => h) (Or.inl ⟨by kernel_rfl, ?hyn82⟩) hHeld ?restn82
                      case hyn82 => (intro w hSw; go_simp; first | done | (with_reducible rfl))
                      try simp only [Act.put, List.append, List.getElem_toArray, List.getElem_cons_succ, List.getElem_cons_zero, List.setIfInBounds_toArray, set16]
                      try simp only [List.set_cons_zero, List.set_cons_succ]
                      refine wpAnyH_take (i := 49) (oi := _) (v := ?vn83) rfl (by kernel_rfl) (by kernel_rfl) (by kernel_rfl) (fun _ _ _ h => h) (Or.inl ⟨by kernel_rfl, ?hyn83⟩) hHeld ?restn83
                      case hyn83 => (intro w hSw; go_simp; first | done | (with_reducible rfl))
                      try simp only [Act.put, List.append, List.getElem_toArray, List.getElem_cons_succ, List.getElem_cons_zero, List.setIfInBounds_toArray, set16]
                      try simp only [List.set_cons_zero, List.set_cons_succ]
                      refine wpAnyH_take (i := 50) (oi := _) (v := ?vn84) rfl (by kernel_rfl) (by kernel_rfl) (by kernel_rfl) (fun _ _ _ h => h) (Or.inl ⟨by kernel_rfl, ?hyn84⟩) hHeld ?restn84
                      case hyn84 => (intro w hSw; go_simp; first | done | (with_reducible rfl))
                      try simp only [Act.put, List.append, List.getElem_toArray, List.getElem_cons_succ, List.getElem_cons_zero, List.setIfInBounds_toArray, set16]
                      try simp only [List.set_cons_zero, List.set_cons_succ]
                      refine wpAnyH_take (i := 51) (oi := _) (v := ?vn85) rfl (by kernel_rfl) (by kernel_rfl) (by kernel_rfl) (fun _ _ _ h => h) (Or.inl ⟨by kernel_rfl, ?hyn85⟩) hHeld ?restn85
                      case hyn85 => (intro w hSw; go_simp; first | done | (with_reducible rfl))
                      try simp only [Act.put, List.append, List.getElem_toArray, List.getElem_cons_succ, List.getElem_cons_zero, List.setIfInBounds_toArray, set16]
                      try simp only [List.set_cons_zero, List.set_cons_succ]
                      refine wpAnyH_take (i := 52) (oi := _) (v := ?vn86) rfl (by kernel_rfl) (by kernel_rfl) (by kernel_rfl) (fun _ _ _ h => h) (Or.inl ⟨by kernel_rfl, ?hyn86⟩) hHeld ?restn86
                      case hyn86 => (intro w hSw; go_simp; first | done | (with_reducible rfl))
                      try simp only [Act.put, List.append, List.getElem_toArray, List.getElem_cons_succ, List.getElem_cons_zero, List.setIfInBounds_toArray, set16]
                      try simp only [List.set_cons_zero, List.set_cons_succ]
                      refine wpAnyH_take (i := 53) (oi := _) (v := ?vn87) rfl (by kernel_rfl) (by kernel_rfl) (by kernel_rfl) (fun _ _ _ h => h) (Or.inl ⟨by kernel_rfl, ?hyn87⟩) hHeld ?restn87
                      case hyn87 => (intro w hSw; go_simp; first | done | (with_reducible rfl))
                      try simp only [Act.put, List.append, List.getElem_toArray, List.getElem_cons_succ, List.getElem_cons_zero, List.setIfInBounds_toArray, set16]
                      try simp only [List.set_cons_zero, List.set_cons_succ]
                      refine wpAnyH_take (i := 54) (oi := _) (v := ?vn88) rfl (by kernel_rfl) (by kernel_rfl) (by kernel_rfl) (fun _ _ _ h => h) (Or.inl ⟨by kernel_rfl, ?hyn88⟩) hHeld ?restn88
                      case hyn88 => (intro w hSw; have kc50 := keepC hSw c50; have kc51 := keepC hSw c51; have kc52 := keepC hSw c52; have kc90 := keepC hSw c90; have kc91 := keepC hSw c91; have kc92 := keepC hSw c92; have kcv0 := keepC hSw cv0; have kcv1 := keepC hSw cv1; have kcx0 := keepC hSw cx0; have kcx1 := keepC hSw cx1; have kcy0 := keepC hSw cy0; have kcy1 := keepC hSw cy1; go_simp; first | done | (with_reducible rfl))
                      try simp only [Act.put, List.append, List.getElem_toArray, List.getElem_cons_succ, List.getElem_cons_zero, List.setIfInBounds_toArray, set16]
                      try simp only [List.set_cons_zero, List.set_cons_succ]
                      refine wpAnyH_ready (rs := [55]) (by kernel_rfl) (by simp) (AllReadyH.cons (o := _) rfl (fun K hK => ?_) AllReadyH.nil)
                      go_simp
                      refine (of2_any _ _).mono ?_
                      rintro e wn89 ⟨rfl, hb3⟩
                      go_wp2_with fail
                      refine hK.out _ _ (keepB hHeld hb3) (fun hNew => ?_)
                      replace BA := BA.keep hb3
                      replace BB := BB.keep hb3
                      replace BD := BD.keep hb3
                      replace BC := BC.keep hb3
                      clear hb3
                      clear hHeld hK K
                      have hHeld := hNew
                      clear hNew
                      try simp only [Act.put, List.append, List.getElem_toArray, List.getElem_cons_succ, List.getElem_cons_zero, List.setIfInBounds_toArray, set16]
                      try simp only [List.set_cons_zero, List.set_cons_succ]
                      refine wpAnyH_take (i := 56) (oi := _) (v := ?vn90) rfl (by kernel_rfl) (by kernel_rfl) (by kernel_rfl) (fun _ _ _ h => h) (Or.inl ⟨by kernel_rfl, ?hyn90⟩) hHeld ?restn90
                      case hyn90 => (intro w hSw; go_simp; first | done | (with_reducible rfl))
                      try simp only [Act.put, List.append, List.getElem_toArray, List.getElem_cons_succ, List.getElem_cons_zero, List.setIfInBounds_toArray, set16]
                      try simp only [List.set_cons_zero, List.set_cons_succ]
                      refine wpAnyH_take (i := 57) (oi := _) (v := ?vn91) rfl (by kernel_rfl) (by kernel_rfl) (by kernel_rfl) (fun _ _ _ h => h) (Or.inl ⟨by kernel_rfl, ?hyn91⟩) hHeld ?restn91
                      case hyn91 => (intro w hSw; go_simp; first | done | (with_reducible rfl))
                      try simp only [Act.put, List.append, List.getElem_toArray, List.getElem_cons_succ, List.getElem_cons_zero, List.setIfInBounds_toArray, set16]
                      try simp only [List.set_cons_zero, List.set_cons_succ]
                      refine wpAnyH_take (i := 58) (oi := _) (v := ?vn92) rfl (by kernel_rfl) (by kernel_rfl) (by kernel_rfl) (fun _ _ _ h => h) (Or.inl ⟨by kernel_rfl, ?hyn92⟩) hHeld ?restn92
                      case hyn92 => (intro w hSw; go_simp; first | done | (with_reducible rfl))
                      try simp only [Act.put, List.append, List.getElem_toArray, List.getElem_cons_succ, List.getElem_cons_zero, List.setIfInBounds_toArray, set16]
                      try simp only [List.set_cons_zero, List.set_cons_succ]
                      refine wpAnyH_take (i := 59) (oi := _) (v := ?vn93) rfl (by kernel_rfl) (by kernel_rfl) (by kernel_rfl) (fun _ _ _ h => h) (Or.inl ⟨by kernel_rfl, ?hyn93⟩) hHeld ?restn93
                      case hyn93 => (intro w hSw; go_simp; first | done | (with_reducible rfl))
                      try simp only [Act.put, List.append, List.getElem_toArray, List.getElem_cons_succ, List.getElem_cons_zero, List.setIfInBounds_toArray, set16]
                      try simp only [List.set_cons_zero, List.set_cons_succ]
                      refine wpAnyH_take (i := 60) (oi := _) (v := ?vn94) rfl (by kernel_rfl) (by kernel_rfl) (by kernel_rfl) (fun _ _ _ h => h) (Or.inl ⟨by kernel_rfl, ?hyn94⟩) hHeld ?restn94
                      case hyn94 => (intro w hSw; go_simp; first | done | (with_reducible rfl))
                      try simp only [Act.put, List.append, List.getElem_toArray, List.getElem_cons_succ, List.getElem_cons_zero, List.setIfInBounds_toArray, set16]
                      try simp only [List.set_cons_zero, List.set_cons_succ]
                      refine wpAnyH_take (i := 61) (oi := _) (v := ?vn95) rfl (by kernel_rfl) (by kernel_rfl) (by kernel_rfl) (fun _ _ _ h => h) (Or.inl ⟨by kernel_rfl, ?hyn95⟩) hHeld ?restn95
                      case hyn95 => (intro w hSw; go_simp; first | done | (with_reducible rfl))
                      try simp only [Act.put, List.append, List.getElem_toArray, List.getElem_cons_succ, List.getElem_cons_zero, List.setIfInBounds_toArray, set16]
                      try simp only [List.set_cons_zero, List.set_cons_succ]
                      refine wpAnyH_take (i := 62) (oi := _) (v := ?vn96) rfl (by kernel_rfl) (by kernel_rfl) (by kernel_rfl) (fun _ _ _ h => h) (Or.inl ⟨by kernel_rfl, ?hyn96⟩) hHeld ?restn96
                      case hyn96 => (intro w hSw; go_simp; first | done | (with_reducible rfl))
                      try simp only [Act.put, List.append, List.getElem_toArray, List.getElem_cons_succ, List.getElem_cons_zero, List.setIfInBounds_toArray, set16]
                      try simp only [List.set_cons_zero, List.set_cons_succ]
                      refine wpAnyH_take (i := 63) (oi := _) (v := ?vn97) rfl (by kernel_rfl) (by kernel_rfl) (by kernel_rfl) (fun _ _ _ h => h) (Or.inl ⟨by kernel_rfl, ?hyn97⟩) hHeld ?restn97
                      case hyn97 => (intro w hSw; have kc50 := keepC hSw c50; have kc51 := keepC hSw c51; have kc52 := keepC hSw c52; have kc90 := keepC hSw c90; have kc91 := keepC hSw c91; have kc92 := keepC hSw c92; have kcv0 := keepC hSw cv0; have kcv1 := keepC hSw cv1; have kcx0 := keepC hSw cx0; have kcx1 := keepC hSw cx1; have kcy0 := keepC hSw cy0; have kcy1 := keepC hSw cy1; go_simp; first | done | (with_reducible rfl))
                      try simp only [Act.put, List.append, List.getElem_toArray, List.getElem_cons_succ, List.getElem_cons_zero, List.setIfInBounds_toArray, set16]
                      try simp only [List.set_cons_zero, List.set_cons_succ]
                      refine wpAnyH_ready (rs := [64]) (by kernel_rfl) (by simp) (AllReadyH.cons (o := _) rfl (fun K hK => ?_) AllReadyH.nil)
                      go_simp
                      refine (of2_any _ _).mono ?_
                      rintro e wn98 ⟨rfl, hb3⟩
                      go_wp2_with fail
                      refine hK.out _ _ (keepB hHeld hb3) (fun hNew => ?_)
                      replace BA := BA.keep hb3
                      replace BB := BB.keep hb3
                      replace BD := BD.keep hb3
                      replace BC := BC.keep hb3
                      clear hb3
                      clear hHeld hK K
                      have hHeld := hNew
                      clear hNew
                      try simp only [Act.put, List.append, List.getElem_toArray, List.getElem_cons_succ, List.getElem_cons_zero, List.setIfInBounds_toArray, set16]
                      try simp only [List.set_cons_zero, List.set_cons_succ]
                      refine wpAnyH_take (i := 65) (oi := _) (v := ?vn99) rfl (by kernel_rfl) (by kernel_rfl) (by kernel_rfl) (fun _ _ _ h => h) (Or.inl ⟨by kernel_rfl, ?hyn99⟩) hHeld ?restn99
                      case hyn99 => (intro w hSw; go_simp; first | done | (with_reducible rfl))
                      try simp only [Act.put, List.append, List.getElem_toArray, List.getElem_cons_succ, List.getElem_cons_zero, List.setIfInBounds_toArray, set16]
                      try simp only [List.set_cons_zero, List.set_cons_succ]
                      refine wpAnyH_take (i := 66) (oi := _) (v := ?vn100) rfl (by kernel_rfl) (by kernel_rfl) (by kernel_rfl) (fun _ _ _ h => h) (Or.inl ⟨by kernel_rfl, ?hyn100⟩) hHeld ?restn100
                      case hyn100 => (intro w hSw; go_simp; first | done | (with_reducible rfl))
                      try simp only [Act.put, List.append, List.getElem_toArray, List.getElem_cons_succ, List.getElem_cons_zero, List.setIfInBounds_toArray, set16]
                      try simp only [List.set_cons_zero, List.set_cons_succ]
                      refine wpAnyH_take (i := 67) (oi := _) (v := ?vn101) rfl (by kernel_rfl) (by kernel_rfl) (by kernel_rfl) (fun _ _ _ h => h) (Or.inl ⟨by kernel_rfl, ?hyn101⟩) hHeld ?restn101
                      case hyn101 => (intro w hSw; go_simp; first | done | (with_reducible rfl))
                      try simp only [Act.put, List.append, List.getElem_toArray, List.getElem_cons_succ, List.getElem_cons_zero, List.setIfInBounds_toArray, set16]
                      try simp only [List.set_cons_zero, List.set_cons_succ]
                      refine wpAnyH_done (by kernel_rfl) ?_ _
                      go_wp2_with fail
                      go_meet
                      exact ⟨rfl, hHeld⟩
              · as_aux_lemma =>
                  go_simp
                  refine hK.out _ _ (below_al hHeld _) (fun hNew => ?_)
                  have hB : Vw27.heap.size ≤ wn0.heap.size := hHeld.size
                  clear hHeld hK K
                  have hHeld := hNew
                  clear hNew
                  try simp only [Act.put, List.append, List.getElem_toArray, List.getElem_cons_succ, List.getElem_cons_zero, List.setIfInBounds_toArray, set16]
                  try simp only [List.set_cons_zero, List.set_cons_succ]
                  refine at_anyH (fun v => Below Vw27.heap.size Vw27 v ∧ BK v wn0.heap.size [.int .i64 2, .int .i64 0, .int .i64 3]) ⟨hHeld, BK.new _ _ _⟩ (fun wn102 hS => ?_)
                  clear hHeld
                  obtain ⟨hHeld, BB⟩ := hS
                  refine wpAnyH_ready (rs := [20]) (by kernel_rfl) (by simp) (AllReadyH.cons (o := _) rfl (fun K hK => ?_) AllReadyH.nil)
                  go_simp
                  refine hK.out _ _ (below_al hHeld _) (fun hNew => ?_)
                  have hA : Vw27.heap.size ≤ wn102.heap.size := hHeld.size
                  have dBA := BB.lt
                  clear hHeld hK K
                  have hHeld := hNew
                  clear hNew
                  try simp only [Act.put, List.append, List.getElem_toArray, List.getElem_cons_succ, List.getElem_cons_zero, List.setIfInBounds_toArray, set16]
                  try simp only [List.set_cons_zero, List.set_cons_succ]
                  refine at_anyH (fun v => Below Vw27.heap.size Vw27 v ∧ BK v wn0.heap.size [.int .i64 2, .int .i64 0, .int .i64 3] ∧ BK v wn102.heap.size [.int .i64 0, .int .i64 1, .int .i64 3, .int .i64 4]) ⟨hHeld, BB.al _, BK.new _ _ _⟩ (fun wn103 hS => ?_)
                  clear hHeld BB
                  obtain ⟨hHeld, BB, BA⟩ := hS
                  refine wpAnyH_take (i := 22) (oi := _) (v := ?vn104) rfl (by kernel_rfl) (by kernel_rfl) (by kernel_rfl) (fun _ _ _ h => h) (Or.inl ⟨by kernel_rfl, ?hyn104⟩) hHeld ?restn104
                  case hyn104 => (intro w hSw; go_simp; first | done | (with_reducible rfl))
                  try simp only [Act.put, List.append, List.getElem_toArray, List.getElem_cons_succ, List.getElem_cons_zero, List.setIfInBounds_toArray, set16]
                  try simp only [List.set_cons_zero, List.set_cons_succ]
                  refine wpAnyH_ready (rs := [23]) (by kernel_rfl) (by simp) (AllReadyH.cons (o := _) rfl (fun K hK => ?_) AllReadyH.nil)
                  go_simp
                  refine (rckSame_any 4 _ [0, 1, 3, 4] _ _ [2, 0, 3] _ 4 _ [0, 1, 3, 4] _ _ [2, 0, 3] _ _ (hIp.keep hHeld) ⟨⟨by decide, by decide⟩, ⟨by simp [maxLen], by simp [maxLen]⟩, isI_bk (xs := [0, 1, 3, 4]) BA (by intro x hx; simp at hx; rcases hx with rfl | rfl | rfl | rfl <;> exact ⟨by decide, by decide⟩), isI_bk (xs := [2, 0, 3]) BB (by intro x hx; simp at hx; rcases hx with rfl | rfl | rfl <;> exact ⟨by decide, by decide⟩)⟩).mono ?_
                  rintro e wn105 ⟨rfl, hb3⟩
                  go_wp2_with fail
                  refine hK.out _ _ (keepB hHeld hb3) (fun hNew => ?_)
                  replace BB := BB.keep hb3
                  replace BA := BA.keep hb3
                  clear hb3
                  clear hHeld hK K
                  have hHeld := hNew
                  clear hNew
                  try simp only [Act.put, List.append, List.getElem_toArray, List.getElem_cons_succ, List.getElem_cons_zero, List.setIfInBounds_toArray, set16]
                  try simp only [List.set_cons_zero, List.set_cons_succ]
                  refine wpAnyH_take (i := 24) (oi := _) (v := ?vn106) rfl (by kernel_rfl) (by kernel_rfl) (by kernel_rfl) (fun _ _ _ h => h) (Or.inl ⟨by kernel_rfl, ?hyn106⟩) hHeld ?restn106
                  case hyn106 => (intro w hSw; go_simp; first | done | (with_reducible rfl))
                  try simp only [Act.put, List.append, List.getElem_toArray, List.getElem_cons_succ, List.getElem_cons_zero, List.setIfInBounds_toArray, set16]
                  try simp only [List.set_cons_zero, List.set_cons_succ]
                  refine wpAnyH_take (i := 25) (oi := _) (v := ?vn107) rfl (by kernel_rfl) (by kernel_rfl) (by kernel_rfl) (fun _ _ _ h => h) (Or.inl ⟨by kernel_rfl, ?hyn107⟩) hHeld ?restn107
                  case hyn107 => (intro w hSw; go_simp; first | done | (with_reducible rfl))
                  try simp only [Act.put, List.append, List.getElem_toArray, List.getElem_cons_succ, List.getElem_cons_zero, List.setIfInBounds_toArray, set16]
                  try simp only [List.set_cons_zero, List.set_cons_succ]
                  refine wpAnyH_take (i := 26) (oi := _) (v := ?vn108) rfl (by kernel_rfl) (by kernel_rfl) (by kernel_rfl) (fun _ _ _ h => h) (Or.inl ⟨by kernel_rfl, ?hyn108⟩) hHeld ?restn108
                  case hyn108 => (intro w hSw; go_simp; first | done | (with_reducible rfl))
                  try simp only [Act.put, List.append, List.getElem_toArray, List.getElem_cons_succ, List.getElem_cons_zero, List.setIfInBounds_toArray, set16]
                  try simp only [List.set_cons_zero, List.set_cons_succ]
                  refine wpAnyH_take (i := 27) (oi := _) (v := ?vn109) rfl (by kernel_rfl) (by kernel_rfl) (by kernel_rfl) (fun _ _ _ h => h) (Or.inl ⟨by kernel_rfl, ?hyn109⟩) hHeld ?restn109
                  case hyn109 => (intro w hSw; go_simp; first | done | (with_reducible rfl))
                  try simp only [Act.put, List.append, List.getElem_toArray, List.getElem_cons_succ, List.getElem_cons_zero, List.setIfInBounds_toArray, set16]
                  try simp only [List.set_cons_zero, List.set_cons_succ]
                  refine wpAnyH_take (i := 28) (oi := _) (v := ?vn110) rfl (by kernel_rfl) (by kernel_rfl) (by kernel_rfl) (fun _ _ _ h => h) (Or.inl ⟨by kernel_rfl, ?hyn110⟩) hHeld ?restn110
                  case hyn110 => (intro w hSw; go_simp; first | done | (with_reducible rfl))
                  try simp only [Act.put, List.append, List.getElem_toArray, List.getElem_cons_succ, List.getElem_cons_zero, List.setIfInBounds_toArray, set16]
                  try simp only [List.set_cons_zero, List.set_cons_succ]
                  refine wpAnyH_take (i := 29) (oi := _) (v := ?vn111) rfl (by kernel_rfl) (by kernel_rfl) (by kernel_rfl) (fun _ _ _ h => h) (Or.inl ⟨by kernel_rfl, ?hyn111⟩) hHeld ?restn111
                  case hyn111 => (intro w hSw; go_simp; first | done | (with_reducible rfl))
                  try simp only [Act.put, List.append, List.getElem_toArray, List.getElem_cons_succ, List.getElem_cons_zero, List.setIfInBounds_toArray, set16]
                  try simp only [List.set_cons_zero, List.set_cons_succ]
                  refine wpAnyH_take (i := 30) (oi := _) (v := ?vn112) rfl (by kernel_rfl) (by kernel_rfl) (by kernel_rfl) (fun _ _ _ h => h) (Or.inl ⟨by kernel_rfl, ?hyn112⟩) hHeld ?restn112
                  case hyn112 => (intro w hSw; go_simp; first | done | (with_reducible rfl))
                  try simp only [Act.put, List.append, List.getElem_toArray, List.getElem_cons_succ, List.getElem_cons_zero, List.setIfInBounds_toArray, set16]
                  try simp only [List.set_cons_zero, List.set_cons_succ]
                  refine wpAnyH_take (i := 31) (oi := _) (v := ?vn113) rfl (by kernel_rfl) (by kernel_rfl) (by kernel_rfl) (fun _ _ _ h => h) (Or.inl ⟨by kernel_rfl, ?hyn113⟩) hHeld ?restn113
                  case hyn113 => (intro w hSw; go_simp; first | done | (with_reducible rfl))
                  try simp only [Act.put, List.append, List.getElem_toArray, List.getElem_cons_succ, List.getElem_cons_zero, List.setIfInBounds_toArray, set16]
                  try simp only [List.set_cons_zero, List.set_cons_succ]
                  refine wpAnyH_take (i := 32) (oi := _) (v := ?vn114) rfl (by kernel_rfl) (by kernel_rfl) (by kernel_rfl) (fun _ _ _ h => h) (Or.inl ⟨by kernel_rfl, ?hyn114⟩) hHeld ?restn114
                  case hyn114 => (intro w hSw; go_simp; first | done | (with_reducible rfl))
                  try simp only [Act.put, List.append, List.getElem_toArray, List.getElem_cons_succ, List.getElem_cons_zero, List.setIfInBounds_toArray, set16]
                  try simp only [List.set_cons_zero, List.set_cons_succ]
                  refine wpAnyH_take (i := 33) (oi := _) (v := ?vn115) rfl (by kernel_rfl) (by kernel_rfl) (by kernel_rfl) (fun _ _ _ h => h) (Or.inl ⟨by kernel_rfl, ?hyn115⟩) hHeld ?restn115
                  case hyn115 => (intro w hSw; go_simp; first | done | (with_reducible rfl))
                  try simp only [Act.put, List.append, List.getElem_toArray, List.getElem_cons_succ, List.getElem_cons_zero, List.setIfInBounds_toArray, set16]
                  try simp only [List.set_cons_zero, List.set_cons_succ]
                  refine wpAnyH_take (i := 34) (oi := _) (v := ?vn116) rfl (by kernel_rfl) (by kernel_rfl) (by kernel_rfl) (fun _ _ _ h => h) (Or.inl ⟨by kernel_rfl, ?hyn116⟩) hHeld ?restn116
                  case hyn116 => (intro w hSw; have kc50 := keepC hSw c50; have kc51 := keepC hSw c51; have kc52 := keepC hSw c52; have kc90 := keepC hSw c90; have kc91 := keepC hSw c91; have kc92 := keepC hSw c92; have kcv0 := keepC hSw cv0; have kcv1 := keepC hSw cv1; have kcx0 := keepC hSw cx0; have kcx1 := keepC hSw cx1; have kcy0 := keepC hSw cy0; have kcy1 := keepC hSw cy1; go_simp; first | done | (with_reducible rfl))
                  try simp only [Act.put, List.append, List.getElem_toArray, List.getElem_cons_succ, List.getElem_cons_zero, List.setIfInBounds_toArray, set16]
                  try simp only [List.set_cons_zero, List.set_cons_succ]
                  refine wpAnyH_ready (rs := [35, 36]) (by kernel_rfl) (by simp) (AllReadyH.cons (o := _) rfl (fun K hK => ?_) (AllReadyH.cons (o := _) rfl (fun K hK => ?_) AllReadyH.nil))
                  · as_aux_lemma =>
                      go_simp
                      refine hK.out _ _ (below_al hHeld _) (fun hNew => ?_)
                      have hC : Vw27.heap.size ≤ wn105.heap.size := hHeld.size
                      have dBC := BB.lt
                      have dAC := BA.lt
                      clear hHeld hK K
                      have hHeld := hNew
                      clear hNew
                      try simp only [Act.put, List.append, List.getElem_toArray, List.getElem_cons_succ, List.getElem_cons_zero, List.setIfInBounds_toArray, set16]
                      try simp only [List.set_cons_zero, List.set_cons_succ]
                      refine at_anyH (fun v => Below Vw27.heap.size Vw27 v ∧ BK v wn0.heap.size [.int .i64 2, .int .i64 0, .int .i64 3] ∧ BK v wn102.heap.size [.int .i64 0, .int .i64 1, .int .i64 3, .int .i64 4] ∧ BK v wn105.heap.size [.int .i64 0, .int .i64 2, .int .i64 4]) ⟨hHeld, BB.al _, BA.al _, BK.new _ _ _⟩ (fun wn117 hS => ?_)
                      clear hHeld BB BA
                      obtain ⟨hHeld, BB, BA, BC⟩ := hS
                      refine wpAnyH_ready (rs := [36]) (by kernel_rfl) (by simp) (AllReadyH.cons (o := _) rfl (fun K hK => ?_) AllReadyH.nil)
                      go_simp
                      refine hK.out _ _ (below_al hHeld _) (fun hNew => ?_)
                      have hD : Vw27.heap.size ≤ wn117.heap.size := hHeld.size
                      have dBD := BB.lt
                      have dAD := BA.lt
                      have dCD := BC.lt
                      clear hHeld hK K
                      have hHeld := hNew
                      clear hNew
                      try simp only [Act.put, List.append, List.getElem_toArray, List.getElem_cons_succ, List.getElem_cons_zero, List.setIfInBounds_toArray, set16]
                      try simp only [List.set_cons_zero, List.set_cons_succ]
                      refine at_anyH (fun v => Below Vw27.heap.size Vw27 v ∧ BK v wn0.heap.size [.int .i64 2, .int .i64 0, .int .i64 3] ∧ BK v wn102.heap.size [.int .i64 0, .int .i64 1, .int .i64 3, .int .i64 4] ∧ BK v wn105.heap.size [.int .i64 0, .int .i64 2, .int .i64 4] ∧ BK v wn117.heap.size [.int .i64 1, .int .i64 0]) ⟨hHeld, BB.al _, BA.al _, BC.al _, BK.new _ _ _⟩ (fun wn118 hS => ?_)
                      clear hHeld BB BA BC
                      obtain ⟨hHeld, BB, BA, BC, BD⟩ := hS
                      refine wpAnyH_take (i := 37) (oi := _) (v := ?vn119) rfl (by kernel_rfl) (by kernel_rfl) (by kernel_rfl) (fun _ _ _ h => h) (Or.inl ⟨by kernel_rfl, ?hyn119⟩) hHeld ?restn119
                      case hyn119 => (intro w hSw; go_simp; first | done | (with_reducible rfl))
                      try simp only [Act.put, List.append, List.getElem_toArray, List.getElem_cons_succ, List.getElem_cons_zero, List.setIfInBounds_toArray, set16]
                      try simp only [List.set_cons_zero, List.set_cons_succ]
                      refine wpAnyH_ready (rs := [38]) (by kernel_rfl) (by simp) (AllReadyH.cons (o := _) rfl (fun K hK => ?_) AllReadyH.nil)
                      go_simp
                      refine (rckSame_any 4 _ [0, 2, 4] _ _ [1, 0] _ 4 _ [0, 2, 4] _ _ [1, 0] _ _ (hIn.keep hHeld) ⟨⟨by decide, by decide⟩, ⟨by simp [maxLen], by simp [maxLen]⟩, isI_bk (xs := [0, 2, 4]) BC (by intro x hx; simp at hx; rcases hx with rfl | rfl | rfl <;> exact ⟨by decide, by decide⟩), isI_bk (xs := [1, 0]) BD (by intro x hx; simp at hx; rcases hx with rfl | rfl <;> exact ⟨by decide, by decide⟩)⟩).mono ?_
                      rintro e wn120 ⟨rfl, hb3⟩
                      go_wp2_with fail
                      refine hK.out _ _ (keepB hHeld hb3) (fun hNew => ?_)
                      replace BB := BB.keep hb3
                      replace BA := BA.keep hb3
                      replace BC := BC.keep hb3
                      replace BD := BD.keep hb3
                      clear hb3
                      clear hHeld hK K
                      have hHeld := hNew
                      clear hNew
                      try simp only [Act.put, List.append, List.getElem_toArray, List.getElem_cons_succ, List.getElem_cons_zero, List.setIfInBounds_toArray, set16]
                      try simp only [List.set_cons_zero, List.set_cons_succ]
                      refine wpAnyH_take (i := 39) (oi := _) (v := ?vn121) rfl (by kernel_rfl) (by kernel_rfl) (by kernel_rfl) (fun _ _ _ h => h) (Or.inl ⟨by kernel_rfl, ?hyn121⟩) hHeld ?restn121
                      case hyn121 => (intro w hSw; go_simp; first | done | (with_reducible rfl))
                      try simp only [Act.put, List.append, List.getElem_toArray, List.getElem_cons_succ, List.getElem_cons_zero, List.setIfInBounds_toArray, set16]
                      try simp only [List.set_cons_zero, List.set_cons_succ]
                      refine wpAnyH_take (i := 40) (oi := _) (v := ?vn122) rfl (by kernel_rfl) (by kernel_rfl) (by kernel_rfl) (fun _ _ _ h => h) (Or.inl ⟨by kernel_rfl, ?hyn122⟩) hHeld ?restn122
                      case hyn122 => (intro w hSw; go_simp; first | done | (with_reducible rfl))
                      try simp only [Act.put, List.append, List.getElem_toArray, List.getElem_cons_succ, List.getElem_cons_zero, List.setIfInBounds_toArray, set16]
                      try simp only [List.set_cons_zero, List.set_cons_succ]
                      refine wpAnyH_take (i := 41) (oi := _) (v := ?vn123) rfl (by kernel_rfl) (by kernel_rfl) (by kernel_rfl) (fun _ _ _ h => h) (Or.inl ⟨by kernel_rfl, ?hyn123⟩) hHeld ?restn123
                      case hyn123 => (intro w hSw; go_simp; first | done | (with_reducible rfl))
                      try simp only [Act.put, List.append, List.getElem_toArray, List.getElem_cons_succ, List.getElem_cons_zero, List.setIfInBounds_toArray, set16]
                      try simp only [List.set_cons_zero, List.set_cons_succ]
                      refine wpAnyH_take (i := 42) (oi := _) (v := ?vn124) rfl (by kernel_rfl) (by kernel_rfl) (by kernel_rfl) (fun _ _ _ h => h) (Or.inl ⟨by kernel_rfl, ?hyn124⟩) hHeld ?restn124
                      case hyn124 => (intro w hSw; go_simp; first | done | (with_reducible rfl))
                      try simp only [Act.put, List.append, List.getElem_toArray, List.getElem_cons_succ, List.getElem_cons_zero, List.setIfInBounds_toArray, set16]
                      try simp only [List.set_cons_zero, List.set_cons_succ]
                      refine wpAnyH_take (i := 43) (oi := _) (v := ?vn125) rfl (by kernel_rfl) (by kernel_rfl) (by kernel_rfl) (fun _ _ _ h => h) (Or.inl ⟨by kernel_rfl, ?hyn125⟩) hHeld ?restn125
                      case hyn125 => (intro w hSw; go_simp; first | done | (with_reducible rfl))
                      try simp only [Act.put, List.append, List.getElem_toArray, List.getElem_cons_succ, List.getElem_cons_zero, List.setIfInBounds_toArray, set16]
                      try simp only [List.set_cons_zero, List.set_cons_succ]
                      refine wpAnyH_take (i := 44) (oi := _) (v := ?vn126) rfl (by kernel_rfl) (by kernel_rfl) (by kernel_rfl) (fun _ _ _ h => h) (Or.inl ⟨by kernel_rfl, ?hyn126⟩) hHeld ?restn126
                      case hyn126 => (intro w hSw; go_simp; first | done | (with_reducible rfl))
                      try simp only [Act.put, List.append, List.getElem_toArray, List.getElem_cons_succ, List.getElem_cons_zero, List.setIfInBounds_toArray, set16]
                      try simp only [List.set_cons_zero, List.set_cons_succ]
                      refine wpAnyH_take (i := 45) (oi := _) (v := ?vn127) rfl (by kernel_rfl) (by kernel_rfl) (by kernel_rfl) (fun _ _ _ h => h) (Or.inl ⟨by kernel_rfl, ?hyn127⟩) hHeld ?restn127
                      case hyn127 => (intro w hSw; have kc50 := keepC hSw c50; have kc51 := keepC hSw c51; have kc52 := keepC hSw c52; have kc90 := keepC hSw c90; have kc91 := keepC hSw c91; have kc92 := keepC hSw c92; have kcv0 := keepC hSw cv0; have kcv1 := keepC hSw cv1; have kcx0 := keepC hSw cx0; have kcx1 := keepC hSw cx1; have kcy0 := keepC hSw cy0; have kcy1 := keepC hSw cy1; go_simp; first | done | (with_reducible rfl))
                      try simp only [Act.put, List.append, List.getElem_toArray, List.getElem_cons_succ, List.getElem_cons_zero, List.setIfInBounds_toArray, set16]
                      try simp only [List.set_cons_zero, List.set_cons_succ]
                      refine wpAnyH_take (i := 46) (oi := _) (v := ?vn128) rfl (by kernel_rfl) (by kernel_rfl) (by kernel_rfl) (fun _ _ _ h => h) (Or.inl ⟨by kernel_rfl, ?hyn128⟩) hHeld ?restn128
                      case hyn128 => (intro w hSw; go_simp; first | done | (with_reducible rfl))
                      try simp only [Act.put, List.append, List.getElem_toArray, List.getElem_cons_succ, List.getElem_cons_zero, List.setIfInBounds_toArray, set16]
                      try simp only [List.set_cons_zero, List.set_cons_succ]
                      refine wpAnyH_take (i := 47) (oi := _) (v := ?vn129) rfl (by kernel_rfl) (by kernel_rfl) (by kernel_rfl) (fun _ _ _ h => h) (Or.inl ⟨by kernel_rfl, ?hyn129⟩) hHeld ?restn129
                      case hyn129 => (intro w hSw; go_simp; first | done | (with_reducible rfl))
                      try simp only [Act.put, List.append, List.getElem_toArray, List.getElem_cons_succ, List.getElem_cons_zero, List.setIfInBounds_toArray, set16]
                      try simp only [List.set_cons_zero, List.set_cons_succ]
                      refine wpAnyH_take (i := 48) (oi := _) (v := ?vn130) rfl (by kernel_rfl) (by kernel_rfl) (by kernel_rfl) (fun _ _ _ h => h) (Or.inl ⟨by kernel_rfl, ?hyn130⟩) hHeld ?restn130
                      case hyn130 => (intro w hSw; go_simp; first | done | (with_reducible rfl))
                      try simp only [Act.put, List.append, List.getElem_toArray, List.getElem_cons_succ, List.getElem_cons_zero, List.setIfInBounds_toArray, set16]
                      try simp only [List.set_cons_zero, List.set_cons_succ]
                      refine wpAnyH_take (i := 49) (oi := _) (v := ?vn131) rfl (by kernel_rfl) (by kernel_rfl) (by kernel_rfl) (fun _ _ _ h => h) (Or.inl ⟨by kernel_rfl, ?hyn131⟩) hHeld ?restn131
                      case hyn131 => (intro w hSw; go_simp; first | done | (with_reducible rfl))
                      try simp only [Act.put, List.append, List.getElem_toArray, List.getElem_cons_succ, List.getElem_cons_zero, List.setIfInBounds_toArray, set16]
                      try simp only [List.set_cons_zero, List.set_cons_succ]
                      refine wpAnyH_take (i := 50) (oi := _) (v := ?vn132) rfl (by kernel_rfl) (by kernel_rfl) (by kernel_rfl) (fun _ _ _ h => h) (Or.inl ⟨by kernel_rfl, ?hyn132⟩) hHeld ?restn132
                      case hyn132 => (intro w hSw; go_simp; first | done | (with_reducible rfl))
                      try simp only [Act.put, List.append, List.getElem_toArray, List.getElem_cons_succ, List.getElem_cons_zero, List.setIfInBounds_toArray, set16]
                      try simp only [List.set_cons_zero, List.set_cons_succ]
                      refine wpAnyH_take (i := 51) (oi := _) (v := ?vn133) rfl (by kernel_rfl) (by kernel_rfl) (by kernel_rfl) (fun _ _ _ h => h) (Or.inl ⟨by kernel_rfl, ?hyn133⟩) hHeld ?restn133
                      case hyn133 => (intro w hSw; go_simp; first | done | (with_reducible rfl))
                      try simp only [Act.put, List.append, List.getElem_toArray, List.getElem_cons_succ, List.getElem_cons_zero, List.setIfInBounds_toArray, set16]
                      try simp only [List.set_cons_zero, List.set_cons_succ]
                      refine wpAnyH_take (i := 52) (oi := _) (v := ?vn134) rfl (by kernel_rfl) (by kernel_rfl) (by kernel_rfl) (fun _ _ _ h => h) (Or.inl ⟨by kernel_rfl, ?hyn134⟩) hHeld ?restn134
                      case hyn134 => (intro w hSw; go_simp; first | done | (with_reducible rfl))
                      try simp only [Act.put, List.append, List.getElem_toArray, List.getElem_cons_succ, List.getElem_cons_zero, List.setIfInBounds_toArray, set16]
                      try simp only [List.set_cons_zero, List.set_cons_succ]
                      refine wpAnyH_take (i := 53) (oi := _) (v := ?vn135) rfl (by kernel_rfl) (by kernel_rfl) (by kernel_rfl) (fun _ _ _ h => h) (Or.inl ⟨by kernel_rfl, ?hyn135⟩) hHeld ?restn135
                      case hyn135 => (intro w hSw; go_simp; first | done | (with_reducible rfl))
                      try simp only [Act.put, List.append, List.getElem_toArray, List.getElem_cons_succ, List.getElem_cons_zero, List.setIfInBounds_toArray, set16]
                      try simp only [List.set_cons_zero, List.set_cons_succ]
                      refine wpAnyH_take (i := 54) (oi := _) (v := ?vn136) rfl (by kernel_rfl) (by kernel_rfl) (by kernel_rfl) (fun _ _ _ h => h) (Or.inl ⟨by kernel_rfl, ?hyn136⟩) hHeld ?restn136
                      case hyn136 => (intro w hSw; have kc50 := keepC hSw c50; have kc51 := keepC hSw c51; have kc52 := keepC hSw c52; have kc90 := keepC hSw c90; have kc91 := keepC hSw c91; have kc92 := keepC hSw c92; have kcv0 := keepC hSw cv0; have kcv1 := keepC hSw cv1; have kcx0 := keepC hSw cx0; have kcx1 := keepC hSw cx1; have kcy0 := keepC hSw cy0; have kcy1 := keepC hSw cy1; go_simp; first | done | (with_reducible rfl))
                      try simp only [Act.put, List.append, List.getElem_toArray, List.getElem_cons_succ, List.getElem_cons_zero, List.setIfInBounds_toArray, set16]
                      try simp only [List.set_cons_zero, List.set_cons_succ]
                      refine wpAnyH_ready (rs := [55]) (by kernel_rfl) (by simp) (AllReadyH.cons (o := _) rfl (fun K hK => ?_) AllReadyH.nil)
                      go_simp
                      refine (of2_any _ _).mono ?_
                      rintro e wn137 ⟨rfl, hb3⟩
                      go_wp2_with fail
                      refine hK.out _ _ (keepB hHeld hb3) (fun hNew => ?_)
                      replace BB := BB.keep hb3
                      replace BA := BA.keep hb3
                      replace BC := BC.keep hb3
                      replace BD := BD.keep hb3
                      clear hb3
                      clear hHeld hK K
                      have hHeld := hNew
                      clear hNew
                      try simp only [Act.put, List.append, List.getElem_toArray, List.getElem_cons_succ, List.getElem_cons_zero, List.setIfInBounds_toArray, set16]
                      try simp only [List.set_cons_zero, List.set_cons_succ]
                      refine wpAnyH_take (i := 56) (oi := _) (v := ?vn138) rfl (by kernel_rfl) (by kernel_rfl) (by kernel_rfl) (fun _ _ _ h => h) (Or.inl ⟨by kernel_rfl, ?hyn138⟩) hHeld ?restn138
                      case hyn138 => (intro w hSw; go_simp; first | done | (with_reducible rfl))
                      try simp only [Act.put, List.append, List.getElem_toArray, List.getElem_cons_succ, List.getElem_cons_zero, List.setIfInBounds_toArray, set16]
                      try simp only [List.set_cons_zero, List.set_cons_succ]
                      refine wpAnyH_take (i := 57) (oi := _) (v := ?vn139) rfl (by kernel_rfl) (by kernel_rfl) (by kernel_rfl) (fun _ _ _ h => h) (Or.inl ⟨by kernel_rfl, ?hyn139⟩) hHeld ?restn139
                      case hyn139 => (intro w hSw; go_simp; first | done | (with_reducible rfl))
                      try simp only [Act.put, List.append, List.getElem_toArray, List.getElem_cons_succ, List.getElem_cons_zero, List.setIfInBounds_toArray, set16]
                      try simp only [List.set_cons_zero, List.set_cons_succ]
                      refine wpAnyH_take (i := 58) (oi := _) (v := ?vn140) rfl (by kernel_rfl) (by kernel_rfl) (by kernel_rfl) (fun _ _ _ h => h) (Or.inl ⟨by kernel_rfl, ?hyn140⟩) hHeld ?restn140
                      case hyn140 => (intro w hSw; go_simp; first | done | (with_reducible rfl))
                      try simp only [Act.put, List.append, List.getElem_toArray, List.getElem_cons_succ, List.getElem_cons_zero, List.setIfInBounds_toArray, set16]
                      try simp only [List.set_cons_zero, List.set_cons_succ]
                      refine wpAnyH_take (i := 59) (oi := _) (v := ?vn141) rfl (by kernel_rfl) (by kernel_rfl) (by kernel_rfl) (fun _ _ _ h => h) (Or.inl ⟨by kernel_rfl, ?hyn141⟩) hHeld ?restn141
                      case hyn141 => (intro w hSw; go_simp; first | done | (with_reducible rfl))
                      try simp only [Act.put, List.append, List.getElem_toArray, List.getElem_cons_succ, List.getElem_cons_zero, List.setIfInBounds_toArray, set16]
                      try simp only [List.set_cons_zero, List.set_cons_succ]
                      refine wpAnyH_take (i := 60) (oi := _) (v := ?vn142) rfl (by kernel_rfl) (by kernel_rfl) (by kernel_rfl) (fun _ _ _ h => h) (Or.inl ⟨by kernel_rfl, ?hyn142⟩) hHeld ?restn142
                      case hyn142 => (intro w hSw; go_simp; first | done | (with_reducible rfl))
                      try simp only [Act.put, List.append, List.getElem_toArray, List.getElem_cons_succ, List.getElem_cons_zero, List.setIfInBounds_toArray, set16]
                      try simp only [List.set_cons_zero, List.set_cons_succ]
                      refine wpAnyH_take (i := 61) (oi := _) (v := ?vn143) rfl (by kernel_rfl) (by kernel_rfl) (by kernel_rfl) (fun _ _ _ h => h) (Or.inl ⟨by kernel_rfl, ?hyn143⟩) hHeld ?restn143
                      case hyn143 => (intro w hSw; go_simp; first | done | (with_reducible rfl))
                      try simp only [Act.put, List.append, List.getElem_toArray, List.getElem_cons_succ, List.getElem_cons_zero, List.setIfInBounds_toArray, set16]
                      try simp only [List.set_cons_zero, List.set_cons_succ]
                      refine wpAnyH_take (i := 62) (oi := _) (v := ?vn144) rfl (by kernel_rfl) (by kernel_rfl) (by kernel_rfl) (fun _ _ _ h => h) (Or.inl ⟨by kernel_rfl, ?hyn144⟩) hHeld ?restn144
                      case hyn144 => (intro w hSw; go_simp; first | done | (with_reducible rfl))
                      try simp only [Act.put, List.append, List.getElem_toArray, List.getElem_cons_succ, List.getElem_cons_zero, List.setIfInBounds_toArray, set16]
                      try simp only [List.set_cons_zero, List.set_cons_succ]
                      refine wpAnyH_take (i := 63) (oi := _) (v := ?vn145) rfl (by kernel_rfl) (by kernel_rfl) (by kernel_rfl) (fun _ _ _ h => h) (Or.inl ⟨by kernel_rfl, ?hyn145⟩) hHeld ?restn145
                      case hyn145 => (intro w hSw; have kc50 := keepC hSw c50; have kc51 := keepC hSw c51; have kc52 := keepC hSw c52; have kc90 := keepC hSw c90; have kc91 := keepC hSw c91; have kc92 := keepC hSw c92; have kcv0 := keepC hSw cv0; have kcv1 := keepC hSw cv1; have kcx0 := keepC hSw cx0; have kcx1 := keepC hSw cx1; have kcy0 := keepC hSw cy0; have kcy1 := keepC hSw cy1; go_simp; first | done | (with_reducible rfl))
                      try simp only [Act.put, List.append, List.getElem_toArray, List.getElem_cons_succ, List.getElem_cons_zero, List.setIfInBounds_toArray, set16]
                      try simp only [List.set_cons_zero, List.set_cons_succ]
                      refine wpAnyH_ready (rs := [64]) (by kernel_rfl) (by simp) (AllReadyH.cons (o := _) rfl (fun K hK => ?_) AllReadyH.nil)
                      go_simp
                      refine (of2_any _ _).mono ?_
                      rintro e wn146 ⟨rfl, hb3⟩
                      go_wp2_with fail
                      refine hK.out _ _ (keepB hHeld hb3) (fun hNew => ?_)
                      replace BB := BB.keep hb3
                      replace BA := BA.keep hb3
                      replace BC := BC.keep hb3
                      replace BD := BD.keep hb3
                      clear hb3
                      clear hHeld hK K
                      have hHeld := hNew
                      clear hNew
                      try simp only [Act.put, List.append, List.getElem_toArray, List.getElem_cons_succ, List.getElem_cons_zero, List.setIfInBounds_toArray, set16]
                      try simp only [List.set_cons_zero, List.set_cons_succ]
                      refine wpAnyH_take (i := 65) (oi := _) (v := ?vn147) rfl (by kernel_rfl) (by kernel_rfl) (by kernel_rfl) (fun _ _ _ h => h) (Or.inl ⟨by kernel_rfl, ?hyn147⟩) hHeld ?restn147
                      case hyn147 => (intro w hSw; go_simp; first | done | (with_reducible rfl))
                      try simp only [Act.put, List.append, List.getElem_toArray, List.getElem_cons_succ, List.getElem_cons_zero, List.setIfInBounds_toArray, set16]
                      try simp only [List.set_cons_zero, List.set_cons_succ]
                      refine wpAnyH_take (i := 66) (oi := _) (v := ?vn148) rfl (by kernel_rfl) (by kernel_rfl) (by kernel_rfl) (fun _ _ _ h => h) (Or.inl ⟨by kernel_rfl, ?hyn148⟩) hHeld ?restn148
                      case hyn148 => (intro w hSw; go_simp; first | done | (with_reducible rfl))
                      try simp only [Act.put, List.append, List.getElem_toArray, List.getElem_cons_succ, List.getElem_cons_zero, List.setIfInBounds_toArray, set16]
                      try simp only [List.set_cons_zero, List.set_cons_succ]
                      refine wpAnyH_take (i := 67) (oi := _) (v := ?vn149) rfl (by kernel_rfl) (by kernel_rfl) (by kernel_rfl) (fun _ _ _ h => h) (Or.inl ⟨by kernel_rfl, ?hyn149⟩) hHeld ?restn149
                      case hyn149 => (intro w hSw; go_simp; first | done | (with_reducible rfl))
                      try simp only [Act.put, List.append, List.getElem_toArray, List.getElem_cons_succ, List.getElem_cons_zero, List.setIfInBounds_toArray, set16]
                      try simp only [List.set_cons_zero, List.set_cons_succ]
                      refine wpAnyH_done (by kernel_rfl) ?_ _
                      go_wp2_with fail
                      go_meet
                      exact ⟨rfl, hHeld⟩
                  · as_aux_lemma =>
                      go_simp
                      refine hK.out _ _ (below_al hHeld _) (fun hNew => ?_)
                      have hD : Vw27.heap.size ≤ wn105.heap.size := hHeld.size
                      have dBD := BB.lt
                      have dAD := BA.lt
                      clear hHeld hK K
                      have hHeld := hNew
                      clear hNew
                      try simp only [Act.put, List.append, List.getElem_toArray, List.getElem_cons_succ, List.getElem_cons_zero, List.setIfInBounds_toArray, set16]
                      try simp only [List.set_cons_zero, List.set_cons_succ]
                      refine at_anyH (fun v => Below Vw27.heap.size Vw27 v ∧ BK v wn0.heap.size [.int .i64 2, .int .i64 0, .int .i64 3] ∧ BK v wn102.heap.size [.int .i64 0, .int .i64 1, .int .i64 3, .int .i64 4] ∧ BK v wn105.heap.size [.int .i64 1, .int .i64 0]) ⟨hHeld, BB.al _, BA.al _, BK.new _ _ _⟩ (fun wn150 hS => ?_)
                      clear hHeld BB BA
                      obtain ⟨hHeld, BB, BA, BD⟩ := hS
                      refine wpAnyH_ready (rs := [35]) (by kernel_rfl) (by simp) (AllReadyH.cons (o := _) rfl (fun K hK => ?_) AllReadyH.nil)
                      go_simp
                      refine hK.out _ _ (below_al hHeld _) (fun hNew => ?_)
                      have hC : Vw27.heap.size ≤ wn150.heap.size := hHeld.size
                      have dBC := BB.lt
                      have dAC := BA.lt
                      have dDC := BD.lt
                      clear hHeld hK K
                      have hHeld := hNew
                      clear hNew
                      try simp only [Act.put, List.append, List.getElem_toArray, List.getElem_cons_succ, List.getElem_cons_zero, List.setIfInBounds_toArray, set16]
                      try simp only [List.set_cons_zero, List.set_cons_succ]
                      refine at_anyH (fun v => Below Vw27.heap.size Vw27 v ∧ BK v wn0.heap.size [.int .i64 2, .int .i64 0, .int .i64 3] ∧ BK v wn102.heap.size [.int .i64 0, .int .i64 1, .int .i64 3, .int .i64 4] ∧ BK v wn105.heap.size [.int .i64 1, .int .i64 0] ∧ BK v wn150.heap.size [.int .i64 0, .int .i64 2, .int .i64 4]) ⟨hHeld, BB.al _, BA.al _, BD.al _, BK.new _ _ _⟩ (fun wn151 hS => ?_)
                      clear hHeld BB BA BD
                      obtain ⟨hHeld, BB, BA, BD, BC⟩ := hS
                      refine wpAnyH_take (i := 37) (oi := _) (v := ?vn152) rfl (by kernel_rfl) (by kernel_rfl) (by kernel_rfl) (fun _ _ _ h => h) (Or.inl ⟨by kernel_rfl, ?hyn152⟩) hHeld ?restn152
                      case hyn152 => (intro w hSw; go_simp; first | done | (with_reducible rfl))
                      try simp only [Act.put, List.append, List.getElem_toArray, List.getElem_cons_succ, List.getElem_cons_zero, List.setIfInBounds_toArray, set16]
                      try simp only [List.set_cons_zero, List.set_cons_succ]
                      refine wpAnyH_ready (rs := [38]) (by kernel_rfl) (by simp) (AllReadyH.cons (o := _) rfl (fun K hK => ?_) AllReadyH.nil)
                      go_simp
                      refine (rckSame_any 4 _ [0, 2, 4] _ _ [1, 0] _ 4 _ [0, 2, 4] _ _ [1, 0] _ _ (hIn.keep hHeld) ⟨⟨by decide, by decide⟩, ⟨by simp [maxLen], by simp [maxLen]⟩, isI_bk (xs := [0, 2, 4]) BC (by intro x hx; simp at hx; rcases hx with rfl | rfl | rfl <;> exact ⟨by decide, by decide⟩), isI_bk (xs := [1, 0]) BD (by intro x hx; simp at hx; rcases hx with rfl | rfl <;> exact ⟨by decide, by decide⟩)⟩).mono ?_
                      rintro e wn153 ⟨rfl, hb3⟩
                      go_wp2_with fail
                      refine hK.out _ _ (keepB hHeld hb3) (fun hNew => ?_)
                      replace BB := BB.keep hb3
                      replace BA := BA.keep hb3
                      replace BD := BD.keep hb3
                      replace BC := BC.keep hb3
                      clear hb3
                      clear hHeld hK K
                      have hHeld := hNew
                      clear hNew
                      try simp only [Act.put, List.append, List.getElem_toArray, List.getElem_cons_succ, List.getElem_cons_zero, List.setIfInBounds_toArray, set16]
                      try simp only [List.set_cons_zero, List.set_cons_succ]
                      refine wpAnyH_take (i := 39) (oi := _) (v := ?vn154) rfl (by kernel_rfl) (by kernel_rfl) (by kernel_rfl) (fun _ _ _ h => h) (Or.inl ⟨by kernel_rfl, ?hyn154⟩) hHeld ?restn154
                      case hyn154 => (intro w hSw; go_simp; first | done | (with_reducible rfl))
                      try simp only [Act.put, List.append, List.getElem_toArray, List.getElem_cons_succ, List.getElem_cons_zero, List.setIfInBounds_toArray, set16]
                      try simp only [List.set_cons_zero, List.set_cons_succ]
                      refine wpAnyH_take (i := 40) (oi := _) (v := ?vn155) rfl (by kernel_rfl) (by kernel_rfl) (by kernel_rfl) (fun _ _ _ h => h) (Or.inl ⟨by kernel_rfl, ?hyn155⟩) hHeld ?restn155
                      case hyn155 => (intro w hSw; go_simp; first | done | (with_reducible rfl))
                      try simp only [Act.put, List.append, List.getElem_toArray, List.getElem_cons_succ, List.getElem_cons_zero, List.setIfInBounds_toArray, set16]
                      try simp only [List.set_cons_zero, List.set_cons_succ]
                      refine wpAnyH_take (i := 41) (oi := _) (v := ?vn156) rfl (by kernel_rfl) (by kernel_rfl) (by kernel_rfl) (fun _ _ _ h => h) (Or.inl ⟨by kernel_rfl, ?hyn156⟩) hHeld ?restn156
                      case hyn156 => (intro w hSw; go_simp; first | done | (with_reducible rfl))
                      try simp only [Act.put, List.append, List.getElem_toArray, List.getElem_cons_succ, List.getElem_cons_zero, List.setIfInBounds_toArray, set16]
                      try simp only [List.set_cons_zero, List.set_cons_succ]
                      refine wpAnyH_take (i := 42) (oi := _) (v := ?vn157) rfl (by kernel_rfl) (by kernel_rfl) (by kernel_rfl) (fun _ _ _ h => h) (Or.inl ⟨by kernel_rfl, ?hyn157⟩) hHeld ?restn157
                      case hyn157 => (intro w hSw; go_simp; first | done | (with_reducible rfl))
                      try simp only [Act.put, List.append, List.getElem_toArray, List.getElem_cons_succ, List.getElem_cons_zero, List.setIfInBounds_toArray, set16]
                      try simp only [List.set_cons_zero, List.set_cons_succ]
                      refine wpAnyH_take (i := 43) (oi := _) (v := ?vn158) rfl (by kernel_rfl) (by kernel_rfl) (by kernel_rfl) (fun _ _ _ h => h) (Or.inl ⟨by kernel_rfl, ?hyn158⟩) hHeld ?restn158
                      case hyn158 => (intro w hSw; go_simp; first | done | (with_reducible rfl))
                      try simp only [Act.put, List.append, List.getElem_toArray, List.getElem_cons_succ, List.getElem_cons_zero, List.setIfInBounds_toArray, set16]
                      try simp only [List.set_cons_zero, List.set_cons_succ]
                      refine wpAnyH_take (i := 44) (oi := _) (v := ?vn159) rfl (by kernel_rfl) (by kernel_rfl) (by kernel_rfl) (fun _ _ _ h => h) (Or.inl ⟨by kernel_rfl, ?hyn159⟩) hHeld ?restn159
                      case hyn159 => (intro w hSw; go_simp; first | done | (with_reducible rfl))
                      try simp only [Act.put, List.append, List.getElem_toArray, List.getElem_cons_succ, List.getElem_cons_zero, List.setIfInBounds_toArray, set16]
                      try simp only [List.set_cons_zero, List.set_cons_succ]
                      refine wpAnyH_take (i := 45) (oi := _) (v := ?vn160) rfl (by kernel_rfl) (by kernel_rfl) (by kernel_rfl) (fun _ _ _ h => h) (Or.inl ⟨by kernel_rfl, ?hyn160⟩) hHeld ?restn160
                      case hyn160 => (intro w hSw; have kc50 := keepC hSw c50; have kc51 := keepC hSw c51; have kc52 := keepC hSw c52; have kc90 := keepC hSw c90; have kc91 := keepC hSw c91; have kc92 := keepC hSw c92; have kcv0 := keepC hSw cv0; have kcv1 := keepC hSw cv1; have kcx0 := keepC hSw cx0; have kcx1 := keepC hSw cx1; have kcy0 := keepC hSw cy0; have kcy1 := keepC hSw cy1; go_simp; first | done | (with_reducible rfl))
                      try simp only [Act.put, List.append, List.getElem_toArray, List.getElem_cons_succ, List.getElem_cons_zero, List.setIfInBounds_toArray, set16]
                      try simp only [List.set_cons_zero, List.set_cons_succ]
                      refine wpAnyH_take (i := 46) (oi := _) (v := ?vn161) rfl (by kernel_rfl) (by kernel_rfl) (by kernel_rfl) (fun _ _ _ h => h) (Or.inl ⟨by kernel_rfl, ?hyn161⟩) hHeld ?restn161
                      case hyn161 => (intro w hSw; go_simp; first | done | (with_reducible rfl))
                      try simp only [Act.put, List.append, List.getElem_toArray, List.getElem_cons_succ, List.getElem_cons_zero, List.setIfInBounds_toArray, set16]
                      try simp only [List.set_cons_zero, List.set_cons_succ]
                      refine wpAnyH_take (i := 47) (oi := _) (v := ?vn162) rfl (by kernel_rfl) (by kernel_rfl) (by kernel_rfl) (fun _ _ _ h => h) (Or.inl ⟨by kernel_rfl, ?hyn162⟩) hHeld ?restn162
                      case hyn162 => (intro w hSw; go_simp; first | done | (with_reducible rfl))
                      try simp only [Act.put, List.append, List.getElem_toArray, List.getElem_cons_succ, List.getElem_cons_zero, List.setIfInBounds_toArray, set16]
                      try simp only [List.set_cons_zero, List.set_cons_succ]
                      refine wpAnyH_take (i := 48) (oi := _) (v := ?vn163) rfl (by kernel_rfl) (by kernel_rfl) (by kernel_rfl) (fun _ _ _ h => h) (Or.inl ⟨by kernel_rfl, ?hyn163⟩) hHeld ?restn163
                      case hyn163 => (intro w hSw; go_simp; first | done | (with_reducible rfl))
                      try simp only [Act.put, List.append, List.getElem_toArray, List.getElem_cons_succ, List.getElem_cons_zero, List.setIfInBounds_toArray, set16]
                      try simp only [List.set_cons_zero, List.set_cons_succ]
                      refine wpAnyH_take (i := 49) (oi := _) (v := ?vn164) rfl (by kernel_rfl) (by kernel_rfl) (by kernel_rfl) (fun _ _ _ h => h) (Or.inl ⟨by kernel_rfl, ?hyn164⟩) hHeld ?restn164
                      case hyn164 => (intro w hSw; go_simp; first | done | (with_reducible rfl))
                      try simp only [Act.put, List.append, List.getElem_toArray, List.getElem_cons_succ, List.getElem_cons_zero, List.setIfInBounds_toArray, set16]
                      try simp only [List.set_cons_zero, List.set_cons_succ]
                      refine wpAnyH_take (i := 50) (oi := _) (v := ?vn165) rfl (by kernel_rfl) (by kernel_rfl) (by kernel_rfl) (fun _ _ _ h => h) (Or.inl ⟨by kernel_rfl, ?hyn165⟩) hHeld ?restn165
                      case hyn165 => (intro w hSw; go_simp; first | done | (with_reducible rfl))
                      try simp only [Act.put, List.append, List.getElem_toArray, List.getElem_cons_succ, List.getElem_cons_zero, List.setIfInBounds_toArray, set16]
                      try simp only [List.set_cons_zero, List.set_cons_succ]
                      refine wpAnyH_take (i := 51) (oi := _) (v := ?vn166) rfl (by kernel_rfl) (by kernel_rfl) (by kernel_rfl) (fun _ _ _ h => h) (Or.inl ⟨by kernel_rfl, ?hyn166⟩) hHeld ?restn166
                      case hyn166 => (intro w hSw; go_simp; first | done | (with_reducible rfl))
                      try simp only [Act.put, List.append, List.getElem_toArray, List.getElem_cons_succ, List.getElem_cons_zero, List.setIfInBounds_toArray, set16]
                      try simp only [List.set_cons_zero, List.set_cons_succ]
                      refine wpAnyH_take (i := 52) (oi := _) (v := ?vn167) rfl (by kernel_rfl) (by kernel_rfl) (by kernel_rfl) (fun _ _ _ h => h) (Or.inl ⟨by kernel_rfl, ?hyn167⟩) hHeld ?restn167
                      case hyn167 => (intro w hSw; go_simp; first | done | (with_reducible rfl))
                      try simp only [Act.put, List.append, List.getElem_toArray, List.getElem_cons_succ, List.getElem_cons_zero, List.setIfInBounds_toArray, set16]
                      try simp only [List.set_cons_zero, List.set_cons_succ]
                      refine wpAnyH_take (i := 53) (oi := _) (v := ?vn168) rfl (by kernel_rfl) (by kernel_rfl) (by kernel_rfl) (fun _ _ _ h => h) (Or.inl ⟨by kernel_rfl, ?hyn168⟩) hHeld ?restn168
                      case hyn168 => (intro w hSw; go_simp; first | done | (with_reducible rfl))
                      try simp only [Act.put, List.append, List.getElem_toArray, List.getElem_cons_succ, List.getElem_cons_zero, List.setIfInBounds_toArray, set16]
                      try simp only [List.set_cons_zero, List.set_cons_succ]
                      refine wpAnyH_take (i := 54) (oi := _) (v := ?vn169) rfl (by kernel_rfl) (by kernel_rfl) (by kernel_rfl) (fun _ _ _ h => h) (Or.inl ⟨by kernel_rfl, ?hyn169⟩) hHeld ?restn169
                      case hyn169 => (intro w hSw; have kc50 := keepC hSw c50; have kc51 := keepC hSw c51; have kc52 := keepC hSw c52; have kc90 := keepC hSw c90; have kc91 := keepC hSw c91; have kc92 := keepC hSw c92; have kcv0 := keepC hSw cv0; have kcv1 := keepC hSw cv1; have kcx0 := keepC hSw cx0; have kcx1 := keepC hSw cx1; have kcy0 := keepC hSw cy0; have kcy1 := keepC hSw cy1; go_simp; first | done | (with_reducible rfl))
                      try simp only [Act.put, List.append, List.getElem_toArray, List.getElem_cons_succ, List.getElem_cons_zero, List.setIfInBounds_toArray, set16]
                      try simp only [List.set_cons_zero, List.set_cons_succ]
                      refine wpAnyH_ready (rs := [55]) (by kernel_rfl) (by simp) (AllReadyH.cons (o := _) rfl (fun K hK => ?_) AllReadyH.nil)
                      go_simp
                      refine (of2_any _ _).mono ?_
                      rintro e wn170 ⟨rfl, hb3⟩
                      go_wp2_with fail
                      refine hK.out _ _ (keepB hHeld hb3) (fun hNew => ?_)
                      replace BB := BB.keep hb3
                      replace BA := BA.keep hb3
                      replace BD := BD.keep hb3
                      replace BC := BC.keep hb3
                      clear hb3
                      clear hHeld hK K
                      have hHeld := hNew
                      clear hNew
                      try simp only [Act.put, List.append, List.getElem_toArray, List.getElem_cons_succ, List.getElem_cons_zero, List.setIfInBounds_toArray, set16]
                      try simp only [List.set_cons_zero, List.set_cons_succ]
                      refine wpAnyH_take (i := 56) (oi := _) (v := ?vn171) rfl (by kernel_rfl) (by kernel_rfl) (by kernel_rfl) (fun _ _ _ h => h) (Or.inl ⟨by kernel_rfl, ?hyn171⟩) hHeld ?restn171
                      case hyn171 => (intro w hSw; go_simp; first | done | (with_reducible rfl))
                      try simp only [Act.put, List.append, List.getElem_toArray, List.getElem_cons_succ, List.getElem_cons_zero, List.setIfInBounds_toArray, set16]
                      try simp only [List.set_cons_zero, List.set_cons_succ]
                      refine wpAnyH_take (i := 57) (oi := _) (v := ?vn172) rfl (by kernel_rfl) (by kernel_rfl) (by kernel_rfl) (fun _ _ _ h => h) (Or.inl ⟨by kernel_rfl, ?hyn172⟩) hHeld ?restn172
                      case hyn172 => (intro w hSw; go_simp; first | done | (with_reducible rfl))
                      try simp only [Act.put, List.append, List.getElem_toArray, List.getElem_cons_succ, List.getElem_cons_zero, List.setIfInBounds_toArray, set16]
                      try simp only [List.set_cons_zero, List.set_cons_succ]
                      refine wpAnyH_take (i := 58) (oi := _) (v := ?vn173) rfl (by kernel_rfl) (by kernel_rfl) (by kernel_rfl) (fun _ _ _ h => h) (Or.inl ⟨by kernel_rfl, ?hyn173⟩) hHeld ?restn173
                      case hyn173 => (intro w hSw; go_simp; first | done | (with_reducible rfl))
                      try simp only [Act.put, List.append, List.getElem_toArray, List.getElem_cons_succ, List.getElem_cons_zero, List.setIfInBounds_toArray, set16]
                      try simp only [List.set_cons_zero, List.set_cons_succ]
                      refine wpAnyH_take (i := 59) (oi := _) (v := ?vn174) rfl (by kernel_rfl) (by kernel_rfl) (by kernel_rfl) (fun _ _ _ h => h) (Or.inl ⟨by kernel_rfl, ?hyn174⟩) hHeld ?restn174
                      case hyn174 => (intro w hSw; go_simp; first | done | (with_reducible rfl))
                      try simp only [Act.put, List.append, List.getElem_toArray, List.getElem_cons_succ, List.getElem_cons_zero, List.setIfInBounds_toArray, set16]
                      try simp only [List.set_cons_zero, List.set_cons_succ]
                      refine wpAnyH_take (i := 60) (oi := _) (v := ?vn175) rfl (by kernel_rfl) (by kernel_rfl) (by kernel_rfl) (fun _ _ _ h => h) (Or.inl ⟨by kernel_rfl, ?hyn175⟩) hHeld ?restn175
                      case hyn175 => (intro w hSw; go_simp; first | done | (with_reducible rfl))
                      try simp only [Act.put, List.append, List.getElem_toArray, List.getElem_cons_succ, List.getElem_cons_zero, List.setIfInBounds_toArray, set16]
                      try simp only [List.set_cons_zero, List.set_cons_succ]
                      refine wpAnyH_take (i := 61) (oi := _) (v := ?vn176) rfl (by kernel_rfl) (by kernel_rfl) (by kernel_rfl) (fun _ _ _ h => h) (Or.inl ⟨by kernel_rfl, ?hyn176⟩) hHeld ?restn176
                      case hyn176 => (intro w hSw; go_simp; first | done | (with_reducible rfl))
                      try simp only [Act.put, List.append, List.getElem_toArray, List.getElem_cons_succ, List.getElem_cons_zero, List.setIfInBounds_toArray, set16]
                      try simp only [List.set_cons_zero, List.set_cons_succ]
                      refine wpAnyH_take (i := 62) (oi := _) (v := ?vn177) rfl (by kernel_rfl) (by kernel_rfl) (by kernel_rfl) (fun _ _ _ h => h) (Or.inl ⟨by kernel_rfl, ?hyn177⟩) hHeld ?restn177
                      case hyn177 => (intro w hSw; go_simp; first | done | (with_reducible rfl))
                      try simp only [Act.put, List.append, List.getElem_toArray, List.getElem_cons_succ, List.getElem_cons_zero, List.setIfInBounds_toArray, set16]
                      try simp only [List.set_cons_zero, List.set_cons_succ]
                      refine wpAnyH_take (i := 63) (oi := _) (v := ?vn178) rfl (by kernel_rfl) (by kernel_rfl) (by kernel_rfl) (fun _ _ _ h => h) (Or.inl ⟨by kernel_rfl, ?hyn178⟩) hHeld ?restn178
                      case hyn178 => (intro w hSw; have kc50 := keepC hSw c50; have kc51 := keepC hSw c51; have kc52 := keepC hSw c52; have kc90 := keepC hSw c90; have kc91 := keepC hSw c91; have kc92 := keepC hSw c92; have kcv0 := keepC hSw cv0; have kcv1 := keepC hSw cv1; have kcx0 := keepC hSw cx0; have kcx1 := keepC hSw cx1; have kcy0 := keepC hSw cy0; have kcy1 := keepC hSw cy1; go_simp; first | done | (with_reducible rfl))
                      try simp only [Act.put, List.append, List.getElem_toArray, List.getElem_cons_succ, List.getElem_cons_zero, List.setIfInBounds_toArray, set16]
                      try simp only [List.set_cons_zero, List.set_cons_succ]
                      refine wpAnyH_ready (rs := [64]) (by kernel_rfl) (by simp) (AllReadyH.cons (o := _) rfl (fun K hK => ?_) AllReadyH.nil)
                      go_simp
                      refine (of2_any _ _).mono ?_
                      rintro e wn179 ⟨rfl, hb3⟩
                      go_wp2_with fail
                      refine hK.out _ _ (keepB hHeld hb3) (fun hNew => ?_)
                      replace BB := BB.keep hb3
                      replace BA := BA.keep hb3
                      replace BD := BD.keep hb3
                      replace BC := BC.keep hb3
                      clear hb3
                      clear hHeld hK K
                      have hHeld := hNew
                      clear hNew
                      try simp only [Act.put, List.append, List.getElem_toArray, List.getElem_cons_succ, List.getElem_cons_zero, List.setIfInBounds_toArray, set16]
                      try simp only [List.set_cons_zero, List.set_cons_succ]
                      refine wpAnyH_take (i := 65) (oi := _) (v := ?vn180) rfl (by kernel_rfl) (by kernel_rfl) (by kernel_rfl) (fun _ _ _ h => h) (Or.inl ⟨by kernel_rfl, ?hyn180⟩) hHeld ?restn180
                      case hyn180 => (intro w hSw; go_simp; first | done | (with_reducible rfl))
                      try simp only [Act.put, List.append, List.getElem_toArray, List.getElem_cons_succ, List.getElem_cons_zero, List.setIfInBounds_toArray, set16]
                      try simp only [List.set_cons_zero, List.set_cons_succ]
                      refine wpAnyH_take (i := 66) (oi := _) (v := ?vn181) rfl (by kernel_rfl) (by kernel_rfl) (by kernel_rfl) (fun _ _ _ h => h) (Or.inl ⟨by kernel_rfl, ?hyn181⟩) hHeld ?restn181
                      case hyn181 => (intro w hSw; go_simp; first | done | (with_reducible rfl))
                      try simp only [Act.put, List.append, List.getElem_toArray, List.getElem_cons_succ, List.getElem_cons_zero, List.setIfInBounds_toArray, set16]
                      try simp only [List.set_cons_zero, List.set_cons_succ]
                      refine wpAnyH_take (i := 67) (oi := _) (v := ?vn182) rfl (by kernel_rfl) (by kernel_rfl) (by kernel_rfl) (fun _ _ _ h => h) (Or.inl ⟨by kernel_rfl, ?hyn182⟩) hHeld ?restn182
                      case hyn182 => (intro w hSw; go_simp; first | done | (with_reducible rfl))
                      try simp only [Act.put, List.append, List.getElem_toArray, List.getElem_cons_succ, List.getElem_cons_zero, List.setIfInBounds_toArray, set16]
                      try simp only [List.set_cons_zero, List.set_cons_succ]
                      refine wpAnyH_done (by kernel_rfl) ?_ _
                      go_wp2_with fail
                      go_meet
                      exact ⟨rfl, hHeld⟩
          case rest =>
            as_aux_lemma =>
              obtain ⟨rfl, hv⟩ := hcut
              clear hIp hIn B5 B9 Bv Bx By c50 c51 c52 c90 c91 c92 cv0 cv1 cx0 cx1 cy0 cy1
              go_upto_region 10 with fail
              replace hbb := keepB hbb hv
              clear hv
              refine at_worldQ (fun v => Below w.heap.size w v) (hbb) (fun Vw28 hS => ?_)
              clear hbb
              have hbb := hS
              clear hS
              as_aux_lemma =>
                go_wp2_with fail
                refine (given4_any _).mono ?_
                rintro e w29 ⟨K, Z, rfl, hI, hb⟩
                replace hbb := keepB hbb hb
                clear hb
                go_wp2_with fail
                refine (of2_any _ _).mono ?_
                rintro e w30 ⟨rfl, hb⟩
                replace hI := hI.keep hb
                replace hbb := keepB hbb hb
                clear hb
                go_wp2_with fail
                refine (of2_any _ _).mono ?_
                rintro e w31 ⟨rfl, hb⟩
                replace hI := hI.keep hb
                replace hbb := keepB hbb hb
                clear hb
                go_wp2_with fail
                refine (nm_valj K Z _ hI).mono ?_
                rintro e w32 ⟨rfl, hb⟩
                replace hbb := keepB hbb hb
                clear hb
                go_upto_region 11 with fail
                refine at_worldQ (fun v => Below w.heap.size w v) ((below_al hbb _)) (fun Vw33 hS => ?_)
                clear hbb
                have hbb := hS
                clear hS
                as_aux_lemma =>
                  go_wp2_with fail
                  refine (given4_any _).mono ?_
                  rintro e w34 ⟨K, Z, rfl, hI, hb⟩
                  replace hbb := keepB hbb hb
                  clear hb
                  go_wp2_with fail
                  refine (of2_any _ _).mono ?_
                  rintro e w35 ⟨rfl, hb⟩
                  replace hI := hI.keep hb
                  replace hbb := keepB hbb hb
                  clear hb
                  go_wp2_with fail
                  refine (of2_any _ _).mono ?_
                  rintro e w36 ⟨rfl, hb⟩
                  replace hI := hI.keep hb
                  replace hbb := keepB hbb hb
                  clear hb
                  go_wp2_with fail
                  refine (nm_valk K Z _ hI).mono ?_
                  rintro e w37 ⟨rfl, hb⟩
                  replace hbb := keepB hbb hb
                  clear hb
                  go_upto_region 12 with fail
                  refine at_worldQ (fun v => Below w.heap.size w v) ((below_al hbb _)) (fun Vw38 hS => ?_)
                  clear hbb
                  have hbb := hS
                  clear hS
                  as_aux_lemma =>
                    go_wp2_with fail
                    refine (given4_any _).mono ?_
                    rintro e w39 ⟨K, Z, rfl, hI, hb⟩
                    replace hbb := keepB hbb hb
                    clear hb
                    go_wp2_with fail
                    refine (of2_any _ _).mono ?_
                    rintro e w40 ⟨rfl, hb⟩
                    replace hI := hI.keep hb
                    replace hbb := keepB hbb hb
                    clear hb
                    go_wp2_with fail
                    refine (of2_any _ _).mono ?_
                    rintro e w41 ⟨rfl, hb⟩
                    replace hI := hI.keep hb
                    replace hbb := keepB hbb hb
                    clear hb
                    go_wp2_with fail
                    refine (nm_vall K Z _ hI).mono ?_
                    rintro e w42 ⟨rfl, hb⟩
                    replace hbb := keepB hbb hb
                    clear hb
                    go_upto_region 13 with fail
                    refine at_worldQ (fun v => Below w.heap.size w v) ((below_al hbb _)) (fun Vw43 hS => ?_)
                    clear hbb
                    have hbb := hS
                    clear hS
                    as_aux_lemma =>
                      go_wp2_with fail
                      refine (given4_any _).mono ?_
                      rintro e w44 ⟨K, Z, rfl, hI, hb⟩
                      replace hbb := keepB hbb hb
                      clear hb
                      go_wp2_with fail
                      refine (of2_any _ _).mono ?_
                      rintro e w45 ⟨rfl, hb⟩
                      replace hI := hI.keep hb
                      replace hbb := keepB hbb hb
                      clear hb
                      go_wp2_with fail
                      refine (nm_valo K Z _ hI).mono ?_
                      rintro e w46 ⟨rfl, hb⟩
                      replace hbb := keepB hbb hb
                      clear hb
                      go_upto_region 14 with fail
                      refine at_worldQ (fun v => Below w.heap.size w v) ((below_al hbb _)) (fun Vw47 hS => ?_)
                      clear hbb
                      have hbb := hS
                      clear hS
                      as_aux_lemma =>
                        go_wp2_with fail
                        refine (given4_any _).mono ?_
                        rintro e w48 ⟨K, Z, rfl, hI, hb⟩
                        replace hbb := keepB hbb hb
                        clear hb
                        go_wp2_with fail
                        refine (of2_any _ _).mono ?_
                        rintro e w49 ⟨rfl, hb⟩
                        replace hI := hI.keep hb
                        replace hbb := keepB hbb hb
                        clear hb
                        go_wp2_with fail
                        refine (of2_any _ _).mono ?_
                        rintro e w50 ⟨rfl, hb⟩
                        replace hI := hI.keep hb
                        replace hbb := keepB hbb hb
                        clear hb
                        go_wp2_with fail
                        refine (nm_mkq K Z _ hI).mono ?_
                        rintro e w51 ⟨rfl, hb⟩
                        replace hbb := keepB hbb hb
                        clear hb
                        go_upto_region 15 with fail
                        refine at_worldQ (fun v => Below w.heap.size w v) ((below_al hbb _)) (fun Vw52 hS => ?_)
                        clear hbb
                        have hbb := hS
                        clear hS
                        as_aux_lemma =>
                          go_wp2_with fail
                          refine (given4_any _).mono ?_
                          rintro e w53 ⟨K, Z, rfl, hI, hb⟩
                          replace hbb := keepB hbb hb
                          clear hb
                          go_wp2_with fail
                          refine (of2_any _ _).mono ?_
                          rintro e w54 ⟨rfl, hb⟩
                          replace hI := hI.keep hb
                          replace hbb := keepB hbb hb
                          clear hb
                          go_wp2_with fail
                          refine (of2_any _ _).mono ?_
                          rintro e w55 ⟨rfl, hb⟩
                          replace hI := hI.keep hb
                          replace hbb := keepB hbb hb
                          clear hb
                          go_wp2_with fail
                          refine (nm_mkr K Z _ hI).mono ?_
                          rintro e w56 ⟨rfl, hb⟩
                          replace hbb := keepB hbb hb
                          clear hb
                          go_upto_region 16 with fail
                          refine at_worldQ (fun v => Below w.heap.size w v) ((below_al hbb _)) (fun Vw57 hS => ?_)
                          clear hbb
                          have hbb := hS
                          clear hS
                          as_aux_lemma =>
                            go_wp2_with fail
                            refine (given4_any _).mono ?_
                            rintro e w58 ⟨K, Z, rfl, hI, hb⟩
                            replace hbb := keepB hbb hb
                            clear hb
                            go_wp2_with fail
                            refine (of2_any _ _).mono ?_
                            rintro e w59 ⟨rfl, hb⟩
                            replace hI := hI.keep hb
                            replace hbb := keepB hbb hb
                            clear hb
                            go_wp2_with fail
                            refine (nm_dens11 K Z _ hI).mono ?_
                            rintro e w60 ⟨rfl, hb⟩
                            replace hbb := keepB hbb hb
                            clear hb
                            as_aux_lemma =>
                              go_wp2_with fail
                              refine (given4_any _).mono ?_
                              rintro e w61 ⟨K, Z, rfl, hI, hb⟩
                              replace hbb := keepB hbb hb
                              clear hb
                              go_wp2_with fail
                              refine (nm_partt K Z _ hI).mono ?_
                              rintro e w62 ⟨Ke, ke, Ze, ze, rfl, _, hb⟩
                              replace hbb := keepB hbb hb
                              clear hb
                              go_upto_region 18 with fail
                              refine at_worldQ (fun v => Below w.heap.size w v) ((below_al hbb _)) (fun Vw63 hS => ?_)
                              clear hbb
                              have hbb := hS
                              clear hS
                              as_aux_lemma =>
                                go_wp2_with fail
                                refine (given4_any _).mono ?_
                                rintro e w64 ⟨K, Z, rfl, hI, hb⟩
                                replace hbb := keepB hbb hb
                                clear hb
                                go_wp2_with fail
                                refine (nm_partu K Z _ hI).mono ?_
                                rintro e w65 ⟨Ke, ke, Ze, ze, rfl, _, hb⟩
                                replace hbb := keepB hbb hb
                                clear hb
                                go_upto_region 19 with fail
                                refine at_worldQ (fun v => Below w.heap.size w v) ((below_al hbb _)) (fun Vw66 hS => ?_)
                                clear hbb
                                have hbb := hS
                                clear hS
                                as_aux_lemma =>
                                  go_wp2_with fail
                                  refine (given4_any _).mono ?_
                                  rintro e w67 ⟨K, Z, rfl, hI, hb⟩
                                  replace hbb := keepB hbb hb
                                  clear hb
                                  go_wp2_with fail
                                  refine (nm_valw K Z _ hI).mono ?_
                                  rintro e w68 ⟨rfl, hb⟩
                                  replace hbb := keepB hbb hb
                                  clear hb
                                  go_upto_region 20 with fail
                                  refine at_worldQ (fun v => Below w.heap.size w v) ((below_al hbb _)) (fun Vw69 hS => ?_)
                                  clear hbb
                                  have hbb := hS
                                  clear hS
                                  as_aux_lemma =>
                                    go_upto_region 21 with fail
                                    go_wp2_with fail
                                    refine (given4_any _).mono ?_
                                    rintro e w70 ⟨K, Z, rfl, hI, hb⟩
                                    replace hbb := keepB hbb hb
                                    clear hb
                                    have kK : ∀ b off, K = some ⟨b, off, none⟩ → b < w70.heap.size := fun b off e => isI_lt hI.2.2.1 (by decide) e
                                    have kZ : ∀ b off, Z = some ⟨b, off, none⟩ → b < w70.heap.size := fun b off e => isI_lt hI.2.2.2 (by decide) e
                                    have lz := hbb.size
                                    go_upto_region 22 with fail
                                    refine at_worldQ (fun v => Below w.heap.size w v ∧ BK v (w70.heap.size) [.int .i64 10, .slice K 4 4, .slice Z 3 3] ∧ IsCake v 10 K [0, 4, 6, 10] Z [2, 0, 3]) ⟨(below_al hbb _), (BK.new _ _ _), hI.keep (below_al (Below.refl _ _) _)⟩ (fun Vw71 hS => ?_)
                                    clear hbb hI
                                    obtain ⟨hbb, Bz, hI⟩ := hS
                                    have z0 := Bz.c 0 rfl
                                    have f0 := Bz.f 0 rfl
                                    go_upto_region 23 with fail
                                    clear z0 f0
                                    refine at_worldQ (fun v => Below w.heap.size w v ∧ BK v (w70.heap.size) [.int .i64 1001, .slice K 4 4, .slice Z 3 3] ∧ IsCake v 1001 K [0, 4, 6, 10] Z [2, 0, 3]) ⟨below_set hbb (by omega) _, Bz.set 0 _, cake_set hI ⟨by decide, by decide⟩ kK kZ (Nat.le_refl _) _⟩ (fun Vz hS => ?_)
                                    clear hbb Bz hI kK kZ
                                    obtain ⟨hbb, Bz, hI⟩ := hS
                                    have bz_0 := Bz.c 0 rfl
                                    have bz_1 := Bz.c 1 rfl
                                    have bz_2 := Bz.c 2 rfl
                                    go_wp2_with fail
                                    refine (nm_chkz K Z _ hI).mono ?_
                                    rintro e w72 ⟨rfl, hb⟩
                                    clear bz_0 bz_1 bz_2
                                    replace Bz := Bz.keep hb
                                    replace hI := hI.keep hb
                                    replace hbb := keepB hbb hb
                                    clear hb
                                    clear Bz hI
                                    as_aux_lemma =>
                                      go_wp2_with fail
                                      refine (nm_chk0 _).mono ?_
                                      rintro e w73 ⟨rfl, hb⟩
                                      replace hbb := keepB hbb hb
                                      clear hb
                                      as_aux_lemma =>
                                        go_wp2_with fail
                                        refine at_worldR (fun v => Below w.heap.size w v ∧ BK v (w73.heap.size) [.int .i64 0, .int .i64 1] ∧ BK v (w73.heap.size + 1) [.int .i64 0]) ⟨(below_al (below_al hbb _) _), (BK.al (BK.new _ _ _) _), (by have b := BK.new (w73.alloc (.cells #[.int .i64 0, .int .i64 1] 3)) [.int .i64 0] 3; simpa only [World.size_alloc] using b)⟩ (fun Vw74 hS => ?_)
                                        clear hbb
                                        obtain ⟨hbb, L1, L2⟩ := hS
                                        refine (lit_chk 1 [0, 1] [0] 8 _ _ _ _ _ ⟨by decide, by decide⟩ ⟨by simp [maxLen], by simp [maxLen]⟩ L1 L2 (by intro x hx; simp at hx; rcases hx with rfl | rfl <;> exact ⟨by decide, by decide⟩) (by intro x hx; simp at hx; rcases hx with rfl <;> exact ⟨by decide, by decide⟩) (by decide +kernel)).mono ?_
                                        rintro e w75 ⟨rfl, hb⟩
                                        replace hbb := keepB hbb hb
                                        clear hb
                                        clear L1 L2
                                        as_aux_lemma =>
                                          go_wp2_with fail
                                          refine at_worldR (fun v => Below w.heap.size w v ∧ BK v (w75.heap.size) [.int .i64 0, .int .i64 1] ∧ BK v (w75.heap.size + 1) [.int .i64 13]) ⟨(below_al (below_al hbb _) _), (BK.al (BK.new _ _ _) _), (by have b := BK.new (w75.alloc (.cells #[.int .i64 0, .int .i64 1] 3)) [.int .i64 13] 3; simpa only [World.size_alloc] using b)⟩ (fun Vw76 hS => ?_)
                                          clear hbb
                                          obtain ⟨hbb, L1, L2⟩ := hS
                                          refine (lit_chk 1 [0, 1] [13] 8 _ _ _ _ _ ⟨by decide, by decide⟩ ⟨by simp [maxLen], by simp [maxLen]⟩ L1 L2 (by intro x hx; simp at hx; rcases hx with rfl | rfl <;> exact ⟨by decide, by decide⟩) (by intro x hx; simp at hx; rcases hx with rfl <;> exact ⟨by decide, by decide⟩) (by decide +kernel)).mono ?_
                                          rintro e w77 ⟨rfl, hb⟩
                                          replace hbb := keepB hbb hb
                                          clear hb
                                          clear L1 L2
                                          as_aux_lemma =>
                                            go_wp2_with fail
                                            refine at_worldR (fun v => Below w.heap.size w v ∧ BK v (w77.heap.size) [.int .i64 0, .int .i64 1, .int .i64 1, .int .i64 2] ∧ BK v (w77.heap.size + 1) [.int .i64 1, .int .i64 1, .int .i64 1]) ⟨(below_al (below_al hbb _) _), (BK.al (BK.new _ _ _) _), (by have b := BK.new (w77.alloc (.cells #[.int .i64 0, .int .i64 1, .int .i64 1, .int .i64 2] 3)) [.int .i64 1, .int .i64 1, .int .i64 1] 3; simpa only [World.size_alloc] using b)⟩ (fun Vw78 hS => ?_)
                                            clear hbb
                                            obtain ⟨hbb, L1, L2⟩ := hS
                                            refine (lit_chk 2 [0, 1, 1, 2] [1, 1, 1] 8 _ _ _ _ _ ⟨by decide, by decide⟩ ⟨by simp [maxLen], by simp [maxLen]⟩ L1 L2 (by intro x hx; simp at hx; rcases hx with rfl | rfl | rfl | rfl <;> exact ⟨by decide, by decide⟩) (by intro x hx; simp at hx; rcases hx with rfl | rfl | rfl <;> exact ⟨by decide, by decide⟩) (by decide +kernel)).mono ?_
                                            rintro e w79 ⟨rfl, hb⟩
                                            replace hbb := keepB hbb hb
                                            clear hb
                                            clear L1 L2
                                            as_aux_lemma =>
                                              have mk := mk_run41
                                              go_wp2_with fail
                                              clear mk
                                              refine at_worldR (fun v => Below w.heap.size w v ∧ BK v w79.heap.size (List.replicate 41 (.int .i64 0))) ⟨below_al hbb _, bk_made _⟩ (fun Vw80 hS => ?_)
                                              clear hbb
                                              obtain ⟨hbb, L1⟩ := hS
                                              refine (lit_chkn 1 (List.replicate 41 0) 4 _ _ _ _ ⟨by decide, by decide⟩ (by simp [maxLen]) L1 (by intro x hx; rw [List.eq_of_mem_replicate hx]; exact ⟨by decide, by decide⟩) (by decide +kernel)).mono ?_
                                              rintro e w81 ⟨rfl, hb⟩
                                              replace hbb := keepB hbb hb
                                              clear hb
                                              clear L1
                                              go_wp2_with fail
                                              refine at_worldR (fun v => Below w.heap.size w v ∧ BK v (w81.heap.size) [.int .i64 0, .int .i64 1]) ⟨(below_al hbb _), (BK.new _ _ _)⟩ (fun Vw82 hS => ?_)
                                              clear hbb
                                              obtain ⟨hbb, L1⟩ := hS
                                              refine (lit_chkn 1 [0, 1] 8 _ _ _ _ ⟨by decide, by decide⟩ (by simp [maxLen]) L1 (by intro x hx; simp at hx; rcases hx with rfl | rfl <;> exact ⟨by decide, by decide⟩) (by decide +kernel)).mono ?_
                                              rintro e w83 ⟨rfl, hb⟩
                                              replace hbb := keepB hbb hb
                                              clear hb
                                              clear L1
                                              go_wp2_with fail
                                              refine at_worldR (fun v => Below w.heap.size w v) (below_al hbb _) (fun Vw84 hS => ?_)
                                              clear hbb
                                              have hbb := hS
                                              clear hS
                                              as_aux_lemma =>
                                                refine (nm_same0 _ _).mono ?_
                                                rintro e w85 ⟨rfl, hb⟩
                                                replace hbb := keepB hbb hb
                                                clear hb
                                                go_wp2_with fail
                                                refine (alive2_any _).mono ?_
                                                rintro e w86 ⟨rfl, hb⟩
                                                replace hbb := keepB hbb hb
                                                clear hb
                                                go_wp2_with fail
                                                go_ret
                                                exact ⟨rfl, hbb⟩
end Go.Proofs.Ytomokdepndclpaa
