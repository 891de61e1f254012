/- Package piece's Has. -/
import Derived.Test.YtnnpmegknlgkoaaPset
import Derived.Test.YtnnpmegknlgkoaaPnear
import Derived.Test.YtnnpmegknlgkoaaPrin
namespace Go.Proofs.Ytnnpmegknlgkoaa
open Go.RowKit
theorem pless_fit {p q : Rat} (h : Pc.Fit p) (k : Pc.Fit q) (w : World) :
    Calls Try.prog 49 #[.agg #[.int .i64 p.num, .int .i64 (p.den : Int)], .agg #[.int .i64 q.num, .int .i64 (q.den : Int)]] w fun e w' => e = .returned (.bool (decide (p < q))) ∧ Below w.heap.size w w' := by
  have b1 := Pc.fit_bd h
  have b2 := Pc.fit_bd k
  have := pless_any p.num (p.den : Int) q.num (q.den : Int) w (by unfold I64; omega) (by unfold I64; omega) (by unfold I64; omega) (by unfold I64; omega)
  rw [Pc.less_fit h k] at this
  exact this
set_option maxHeartbeats 2000000 in
theorem has1_any (s : Rat × Rat) (r : Rat) (p : Nat) (w : World) (hs1 : Pc.Fit s.1) (hs2 : Pc.Fit s.2) (hr : Pc.Fit r) (hc : w.cell? ⟨p, 0, none⟩ = some (.int .i64 r.num) ∧ w.cell? ⟨p, 1, none⟩ = some (.int .i64 (r.den : Int))) :
    Calls Try.prog 59 #[.agg #[.int .i64 s.1.num, .int .i64 (s.1.den : Int), .int .i64 s.2.num, .int .i64 (s.2.den : Int)], .pointer (some ⟨p, 0, none⟩)] w fun e w' => e = .returned (.bool (Pc.hitS s r)) ∧ Below w.heap.size w w' := by
  obtain ⟨c0, c1⟩ := hc
  have la := fun v => pless_fit hr hs1 v
  have lb := fun v => pless_fit hr hs2 v
  have hp := lt_of_cell c0
  unfold Pc.hitS
  by_cases h1 : r < s.1
  · rw [decide_eq_true h1] at la ⊢
    have LA := Lib.hid la
    clear la lb h1
    go_enter Try.func59, Try.ntmps59
    go_wp2_with fail
    refine (LA.out _).mono ?_
    rintro e w1 ⟨rfl, hb1⟩
    have hbb : Below w.heap.size w w1 := keepB ((Below.refl _ _).alloc (Nat.le_refl _) _) hb1
    clear hb1
    go_wp2_with fail
    go_ret
    exact ⟨rfl, hbb⟩
  · rw [decide_eq_false h1] at la ⊢
    have LA := Lib.hid la
    generalize decide (r < s.2) = z at *
    have LB := Lib.hid lb
    clear la lb h1
    go_enter Try.func59, Try.ntmps59
    go_wp2_with fail
    refine (LA.out _).mono ?_
    rintro e w1 ⟨rfl, hb1⟩
    have c0' := keepC hb1 (cell_alloc c0 _)
    have c1' := keepC hb1 (cell_alloc c1 _)
    have x2 : w1.cell? ⟨w.heap.size, 2, none⟩ = some (.int .i64 s.2.num) := keepC hb1 (by go_simp)
    have x3 : w1.cell? ⟨w.heap.size, 3, none⟩ = some (.int .i64 (s.2.den : Int)) := keepC hb1 (by go_simp)
    have hbb : Below w.heap.size w w1 := keepB ((Below.refl _ _).alloc (Nat.le_refl _) _) hb1
    clear hb1 c0 c1
    go_wp2_with fail
    refine (LB.out _).mono ?_
    rintro e w2 ⟨rfl, hb2⟩
    go_wp2_with fail
    go_ret
    exact ⟨rfl, keepB hbb hb2⟩
set_option linter.unusedSimpArgs false in
set_option maxHeartbeats 4000000 in
set_option maxRecDepth 100000 in
theorem indexSpan_any (A : Option Addr) (cap : Nat) (L : List (Rat × Rat)) (r : Rat) (p : Nat) (w : World) (hl : L.length ≤ 1000) (hf : ∀ x ∈ Pc.ends L, Pc.Fit x) (hr : Pc.Fit r) (h : IsS w A (L.map Pc.raw)) (hc : w.cell? ⟨p, 0, none⟩ = some (.int .i64 r.num) ∧ w.cell? ⟨p, 1, none⟩ = some (.int .i64 (r.den : Int))) :
    Calls Try.prog 94 #[.slice A L.length cap, .func (.func 59) #[] #[.pointer (some ⟨p, 0, none⟩)]] w fun e w' => ∃ z : Int, e = .returned (.int .i64 z) ∧ (Pc.inn L r = true → 0 ≤ z ∧ z ≤ 1000) ∧ (Pc.inn L r = false → z = -1) ∧ Below w.heap.size w w' := by
  obtain ⟨b, off, hA, hcs⟩ := h.cell
  have HC := Lib.hid hcs
  have HA := Lib.hid hA
  have HF := Lib.hid (show ∀ k, k < L.length → Pc.Fit (Pc.sat L k).1 ∧ Pc.Fit (Pc.sat L k).2 from fun k hk => ⟨hf _ (Pc.mem_ends1 hk).1, hf _ (Pc.mem_ends1 hk).2⟩)
  have HCE := Lib.hid hc
  have HR := Lib.hid hr
  clear h hcs hA hf hc hr
  go_enter Try.func94, Try.ntmps94
  go_wp2_with fail
  go_loopw [5, 8] (fun _ i W => ∃ k : Nat, k ≤ L.length ∧ i = .int .i64 k ∧ (∀ j, j < k → Pc.hitS (Pc.sat L j) r = false) ∧ Below w.heap.size w W) (fun _ i _ => L.length - (intOf i).toNat)
  case atStart => exact ⟨0, Nat.zero_le _, rfl, fun j hj => absurd hj (Nat.not_lt_zero _), Below.refl _ _⟩
  case round =>
    obtain ⟨k, hk, rfl, hok, hbb⟩ := hrel
    have HOK := Lib.hid hok
    clear hok
    by_cases hlt : k < L.length
    · have hA' := HA.out (by omega)
      subst hA'
      obtain ⟨s, hs⟩ : ∃ s, Pc.sat L k = s := ⟨_, rfl⟩
      have c0 := keepC hbb (HC.out k hlt).1
      have c1 := keepC hbb (HC.out k hlt).2.1
      have c2 := keepC hbb (HC.out k hlt).2.2.1
      have c3 := keepC hbb (HC.out k hlt).2.2.2
      have hfs := HF.out k hlt
      rw [hs] at c0 c1 c2 c3 hfs
      have hv := has1_any s r p wr hfs.1 hfs.2 HR.out ⟨keepC hbb HCE.out.1, keepC hbb HCE.out.2⟩
      by_cases hh : Pc.hitS s r = true
      · rw [hh] at hv
        have HV := Lib.hid hv
        have EB := Lib.hid (Pc.inn_yes hlt (show Pc.hitS (Pc.sat L k) r = true by rw [hs]; exact hh))
        clear hv hh hs hfs
        go_wp2_with fail
        refine HV.out.mono ?_
        rintro e w1 ⟨rfl, hb1⟩
        replace hbb := keepB hbb hb1
        clear hb1
        go_wp2_with fail
        go_ret
        first
          | exact ⟨fun _ => by omega, fun h => (by rw [EB.out] at h; cases h), hbb⟩
          | exact ⟨_, rfl, fun _ => by omega, fun h => (by rw [EB.out] at h; cases h), hbb⟩
      · have hh : Pc.hitS s r = false := by simpa using hh
        rw [hh] at hv
        have HV := Lib.hid hv
        have EB := Lib.hid (show Pc.hitS (Pc.sat L k) r = false by rw [hs]; exact hh)
        clear hv hh hs hfs
        go_wp2_with fail
        refine HV.out.mono ?_
        rintro e w1 ⟨rfl, hb1⟩
        replace hbb := keepB hbb hb1
        clear hb1 c0 c1 c2 c3
        go_wp2_with fail
        go_roundw
        case rel => exact ⟨k + 1, by omega, by go_num, fun j hj => (Nat.lt_succ_iff_lt_or_eq.1 hj).elim (HOK.out j) (fun e => e ▸ EB.out), hbb⟩
        case measure => simp [intOf]; omega
    · obtain rfl : k = L.length := by omega
      have EB := Lib.hid (Pc.inn_not HOK.out)
      clear HA HC HF HOK
      go_wp2_with fail
      go_ret
      first
        | exact ⟨fun h => (by rw [EB.out] at h; cases h), fun _ => rfl, hbb⟩
        | exact ⟨_, rfl, fun h => (by rw [EB.out] at h; cases h), fun _ => rfl, hbb⟩
set_option maxHeartbeats 2000000 in
theorem containsSpan_any (A : Option Addr) (cap : Nat) (L : List (Rat × Rat)) (r : Rat) (p : Nat) (w : World) (hl : L.length ≤ 1000) (hf : ∀ x ∈ Pc.ends L, Pc.Fit x) (hr : Pc.Fit r) (h : IsS w A (L.map Pc.raw)) (hc : w.cell? ⟨p, 0, none⟩ = some (.int .i64 r.num) ∧ w.cell? ⟨p, 1, none⟩ = some (.int .i64 (r.den : Int))) :
    Calls Try.prog 58 #[.slice A L.length cap, .func (.func 59) #[] #[.pointer (some ⟨p, 0, none⟩)]] w fun e w' => e = .returned (.bool (Pc.inn L r)) ∧ Below w.heap.size w w' := by
  have IX := Lib.hid (indexSpan_any A cap L r p w hl hf hr h hc)
  generalize hz : Pc.inn L r = b at *
  clear hl hf hr h hc hz
  go_enter Try.func58, Try.ntmps58
  go_wp2_with fail
  refine IX.out.mono ?_
  rintro e w1 ⟨z, rfl, h1, h2, hb1⟩
  cases b
  · obtain rfl := h2 rfl
    clear h1 h2
    go_wp2_with fail
    go_ret
    exact ⟨rfl, hb1⟩
  · obtain ⟨h3, _⟩ := h1 rfl
    have hd : decide ((0 : Int) ≤ z) = true := decide_eq_true h3
    clear h1 h2
    go_wp2_with fail
    go_ret
    exact ⟨rfl, hb1⟩
namespace Pc
/-- Has' answer and error. -/
def hasS (xs : List Raw) (n d : Int) : Bool × Int := if chk xs = 0 then (if Rp.Ok n d then (inn (xs.map toQ) (Rp.q n d), 0) else (false, 2)) else (false, chk xs)
end Pc
set_option linter.unusedSimpArgs false in
set_option maxHeartbeats 4000000 in
set_option maxRecDepth 100000 in
theorem pHas_any (A : Option Addr) (cap : Nat) (xs : List Raw) (n d : Int) (w : World) (hn : I64 n) (hd : I64 d) (h : IsS w A xs) :
    Calls Try.prog 15 #[.slice A xs.length cap, .agg #[.int .i64 n, .int .i64 d]] w fun e w' => e = .returned (.tuple #[.bool (Pc.hasS xs n d).1, .int .i64 (Pc.hasS xs n d).2]) ∧ Below w.heap.size w w' := by
  have ck := fun v (hv : Below w.heap.size w v) => pChk_any A cap xs v (h.keep hv)
  have cr := fun v => check_any n d v hn.1 hn.2 hd.1 hd.2
  by_cases hx : Pc.chk xs = 0
  · rw [hx] at ck
    rcases chk_cases n d with ⟨e, ho⟩ | ⟨e, ho⟩
    · rw [e] at cr
      obtain ⟨L, rfl, gL⟩ := Pc.chk_good hx
      have hv : Pc.hasS (L.map Pc.raw) n d = (Pc.inn L (Rp.q n d), 0) := by unfold Pc.hasS; rw [if_pos hx, if_pos ho, Pc.map_toQ_raw]
      rw [hv]
      rw [List.length_map] at ck ⊢
      have hfq := Pc.fit_q ho
      have CF := Lib.hid (fun v p (hv : Below w.heap.size w v) (hc : v.cell? ⟨p, 0, none⟩ = some (.int .i64 (Rp.q n d).num) ∧ v.cell? ⟨p, 1, none⟩ = some (.int .i64 ((Rp.q n d).den : Int))) => containsSpan_any A cap L (Rp.q n d) p v (by have := gL.len; omega) gL.fit hfq (h.keep hv) hc)
      simp only [Rp.q_num ho, Rp.q_denI ho] at CF
      generalize Pc.inn L (Rp.q n d) = b at *
      have CK := Lib.hid ck
      have CR := Lib.hid cr
      clear ck cr hx hv h gL hfq ho e hn hd
      go_enter Try.func15, Try.ntmps15
      go_wp2_with fail
      refine (CK.out _ (below_al (Below.refl _ _) _)).mono ?_
      rintro e w1 ⟨rfl, hb1⟩
      have x0 : w1.cell? ⟨w.heap.size, 0, none⟩ = some (.int .i64 n) := keepC hb1 (n20 _ _ _ _)
      have x1 : w1.cell? ⟨w.heap.size, 1, none⟩ = some (.int .i64 d) := keepC hb1 (n21 _ _ _ _)
      have hbb : Below w.heap.size w w1 := keepB (below_al (Below.refl _ _) _) hb1
      clear hb1
      go_wp2_with fail
      refine (CR.out _).mono ?_
      rintro e w2 ⟨rfl, hb2⟩
      replace x0 := keepC hb2 x0
      replace x1 := keepC hb2 x1
      replace hbb := keepB hbb hb2
      clear hb2
      go_wp2_with fail
      refine (CF.out _ _ hbb ⟨x0, x1⟩).mono ?_
      rintro e w3 ⟨rfl, hb3⟩
      replace hbb := keepB hbb hb3
      clear hb3 x0 x1
      go_wp2_with fail
      go_ret2
      exact ⟨rfl, hbb⟩
    · rw [e] at cr
      have hv : Pc.hasS xs n d = (false, 2) := by unfold Pc.hasS; rw [if_pos hx, if_neg ho]
      rw [hv]
      have CK := Lib.hid ck
      have CR := Lib.hid cr
      clear ck cr hx hv h ho e hn hd
      go_enter Try.func15, Try.ntmps15
      go_wp2_with fail
      refine (CK.out _ (below_al (Below.refl _ _) _)).mono ?_
      rintro e w1 ⟨rfl, hb1⟩
      have x0 : w1.cell? ⟨w.heap.size, 0, none⟩ = some (.int .i64 n) := keepC hb1 (n20 _ _ _ _)
      have x1 : w1.cell? ⟨w.heap.size, 1, none⟩ = some (.int .i64 d) := keepC hb1 (n21 _ _ _ _)
      have hbb : Below w.heap.size w w1 := keepB (below_al (Below.refl _ _) _) hb1
      clear hb1
      go_wp2_with fail
      refine (CR.out _).mono ?_
      rintro e w2 ⟨rfl, hb2⟩
      replace hbb := keepB hbb hb2
      clear hb2 x0 x1
      go_wp2_with fail
      go_ret2
      exact ⟨rfl, hbb⟩
  · have hv : Pc.hasS xs n d = (false, Pc.chk xs) := by unfold Pc.hasS; rw [if_neg hx]
    rw [hv]
    have n1 : (Pc.chk xs != 0) = true := by rw [bne_iff_ne]; exact hx
    generalize Pc.chk xs = c at *
    have CK := Lib.hid ck
    clear ck cr hx hv h hn hd
    go_enter Try.func15, Try.ntmps15
    go_wp2_with fail
    refine (CK.out _ (below_al (Below.refl _ _) _)).mono ?_
    rintro e w1 ⟨rfl, hb1⟩
    have hbb : Below w.heap.size w w1 := keepB (below_al (Below.refl _ _) _) hb1
    clear hb1
    go_wp2_with fail
    go_ret2
    exact ⟨rfl, hbb⟩
end Go.Proofs.Ytnnpmegknlgkoaa
