/- Package piece's Has. Package piece's Cut. Package piece's sum of a measure over spans, and Length. -/
import Derived.Test.YtomokdepndclpaaQd
import Derived.Test.YtomokdepndclpaaQb
import Derived.Test.YtomokdepndclpaaPrin
import Derived.Test.YtomokdepndclpaaQc
namespace Go.Proofs.Ytomokdepndclpaa
open Go.RowKit
theorem pless_fit {p q : Rat} (h : Pc.Fit p) (k : Pc.Fit q) (w : World) :
    Calls Try.prog 100 #[.agg #[.int .i64 p.num, .int .i64 (p.den : Int)], .agg #[.int .i64 q.num, .int .i64 (q.den : Int)]] w fun e w' => e = .returned (.bool (decide (p < q))) ∧ Below w.heap.size w w' := by
  have b1 := Pc.fit_bd h
  have b2 := Pc.fit_bd k
  have := pless_any p.num (p.den : Int) q.num (q.den : Int) w (by unfold I64; omega) (by unfold I64; omega) (by unfold I64; omega) (by unfold I64; omega)
  rw [Pc.less_fit h k] at this
  exact this
set_option maxHeartbeats 2000000 in
theorem has1_any (s : Rat × Rat) (r : Rat) (p : Nat) (w : World) (hs1 : Pc.Fit s.1) (hs2 : Pc.Fit s.2) (hr : Pc.Fit r) (hc : w.cell? ⟨p, 0, none⟩ = some (.int .i64 r.num) ∧ w.cell? ⟨p, 1, none⟩ = some (.int .i64 (r.den : Int))) :
    Calls Try.prog 107 #[.agg #[.int .i64 s.1.num, .int .i64 (s.1.den : Int), .int .i64 s.2.num, .int .i64 (s.2.den : Int)], .pointer (some ⟨p, 0, none⟩)] w fun e w' => e = .returned (.bool (Pc.hitS s r)) ∧ Below w.heap.size w w' := by
  obtain ⟨c0, c1⟩ := hc
  have la := fun v => pless_fit hr hs1 v
  have lb := fun v => pless_fit hr hs2 v
  have hp := lt_of_cell c0
  unfold Pc.hitS
  by_cases h1 : r < s.1
  · rw [decide_eq_true h1] at la ⊢
    have LA := Lib.hid la
    clear la lb h1
    go_enter Try.func107, Try.ntmps107
    go_wp2_with fail
    refine (LA.out _).mono ?_
    rintro e w1 ⟨rfl, hb1⟩
    have hbb : Below w.heap.size w w1 := keepB ((Below.refl _ _).alloc (Nat.le_refl _) _) hb1
    clear hb1
    go_wp2_with fail
    go_ret
    exact ⟨rfl, hbb⟩
  · rw [decide_eq_false h1] at la ⊢
    have LA := Lib.hid la
    generalize decide (r < s.2) = z at *
    have LB := Lib.hid lb
    clear la lb h1
    go_enter Try.func107, Try.ntmps107
    go_wp2_with fail
    refine (LA.out _).mono ?_
    rintro e w1 ⟨rfl, hb1⟩
    have c0' := keepC hb1 (cell_alloc c0 _)
    have c1' := keepC hb1 (cell_alloc c1 _)
    have x2 : w1.cell? ⟨w.heap.size, 2, none⟩ = some (.int .i64 s.2.num) := keepC hb1 (by go_simp)
    have x3 : w1.cell? ⟨w.heap.size, 3, none⟩ = some (.int .i64 (s.2.den : Int)) := keepC hb1 (by go_simp)
    have hbb : Below w.heap.size w w1 := keepB ((Below.refl _ _).alloc (Nat.le_refl _) _) hb1
    clear hb1 c0 c1
    go_wp2_with fail
    refine (LB.out _).mono ?_
    rintro e w2 ⟨rfl, hb2⟩
    go_wp2_with fail
    go_ret
    exact ⟨rfl, keepB hbb hb2⟩
set_option linter.unusedSimpArgs false in
set_option maxHeartbeats 4000000 in
set_option maxRecDepth 100000 in
theorem indexSpan_any (A : Option Addr) (cap : Nat) (L : List (Rat × Rat)) (r : Rat) (p : Nat) (w : World) (hl : L.length ≤ 1000) (hf : ∀ x ∈ Pc.ends L, Pc.Fit x) (hr : Pc.Fit r) (h : IsS w A (L.map Pc.raw)) (hc : w.cell? ⟨p, 0, none⟩ = some (.int .i64 r.num) ∧ w.cell? ⟨p, 1, none⟩ = some (.int .i64 (r.den : Int))) :
    Calls Try.prog 135 #[.slice A L.length cap, .func (.func 107) #[] #[.pointer (some ⟨p, 0, none⟩)]] w fun e w' => ∃ z : Int, e = .returned (.int .i64 z) ∧ (Pc.inn L r = true → 0 ≤ z ∧ z ≤ 1000) ∧ (Pc.inn L r = false → z = -1) ∧ Below w.heap.size w w' := by
  obtain ⟨b, off, hA, hcs⟩ := h.cell
  have HC := Lib.hid hcs
  have HA := Lib.hid hA
  have HF := Lib.hid (show ∀ k, k < L.length → Pc.Fit (Pc.sat L k).1 ∧ Pc.Fit (Pc.sat L k).2 from fun k hk => ⟨hf _ (Pc.mem_ends1 hk).1, hf _ (Pc.mem_ends1 hk).2⟩)
  have HCE := Lib.hid hc
  have HR := Lib.hid hr
  clear h hcs hA hf hc hr
  go_enter Try.func135, Try.ntmps135
  go_wp2_with fail
  go_loopw [5, 8] (fun _ i W => ∃ k : Nat, k ≤ L.length ∧ i = .int .i64 k ∧ (∀ j, j < k → Pc.hitS (Pc.sat L j) r = false) ∧ Below w.heap.size w W) (fun _ i _ => L.length - (intOf i).toNat)
  case atStart => exact ⟨0, Nat.zero_le _, rfl, fun j hj => absurd hj (Nat.not_lt_zero _), Below.refl _ _⟩
  case round =>
    obtain ⟨k, hk, rfl, hok, hbb⟩ := hrel
    have HOK := Lib.hid hok
    clear hok
    by_cases hlt : k < L.length
    · have hA' := HA.out (by omega)
      subst hA'
      obtain ⟨s, hs⟩ : ∃ s, Pc.sat L k = s := ⟨_, rfl⟩
      have c0 := keepC hbb (HC.out k hlt).1
      have c1 := keepC hbb (HC.out k hlt).2.1
      have c2 := keepC hbb (HC.out k hlt).2.2.1
      have c3 := keepC hbb (HC.out k hlt).2.2.2
      have hfs := HF.out k hlt
      rw [hs] at c0 c1 c2 c3 hfs
      have hv := has1_any s r p wr hfs.1 hfs.2 HR.out ⟨keepC hbb HCE.out.1, keepC hbb HCE.out.2⟩
      by_cases hh : Pc.hitS s r = true
      · rw [hh] at hv
        have HV := Lib.hid hv
        have EB := Lib.hid (Pc.inn_yes hlt (show Pc.hitS (Pc.sat L k) r = true by rw [hs]; exact hh))
        clear hv hh hs hfs
        go_wp2_with fail
        refine HV.out.mono ?_
        rintro e w1 ⟨rfl, hb1⟩
        replace hbb := keepB hbb hb1
        clear hb1
        go_wp2_with fail
        go_ret
        first
          | exact ⟨fun _ => by omega, fun h => (by rw [EB.out] at h; cases h), hbb⟩
          | exact ⟨_, rfl, fun _ => by omega, fun h => (by rw [EB.out] at h; cases h), hbb⟩
      · have hh : Pc.hitS s r = false := by simpa using hh
        rw [hh] at hv
        have HV := Lib.hid hv
        have EB := Lib.hid (show Pc.hitS (Pc.sat L k) r = false by rw [hs]; exact hh)
        clear hv hh hs hfs
        go_wp2_with fail
        refine HV.out.mono ?_
        rintro e w1 ⟨rfl, hb1⟩
        replace hbb := keepB hbb hb1
        clear hb1 c0 c1 c2 c3
        go_wp2_with fail
        go_roundw
        case rel => exact ⟨k + 1, by omega, by go_num, fun j hj => (Nat.lt_succ_iff_lt_or_eq.1 hj).elim (HOK.out j) (fun e => e ▸ EB.out), hbb⟩
        case measure => simp [intOf]; omega
    · obtain rfl : k = L.length := by omega
      have EB := Lib.hid (Pc.inn_not HOK.out)
      clear HA HC HF HOK
      go_wp2_with fail
      go_ret
      first
        | exact ⟨fun h => (by rw [EB.out] at h; cases h), fun _ => rfl, hbb⟩
        | exact ⟨_, rfl, fun h => (by rw [EB.out] at h; cases h), fun _ => rfl, hbb⟩
set_option maxHeartbeats 2000000 in
theorem containsSpan_any (A : Option Addr) (cap : Nat) (L : List (Rat × Rat)) (r : Rat) (p : Nat) (w : World) (hl : L.length ≤ 1000) (hf : ∀ x ∈ Pc.ends L, Pc.Fit x) (hr : Pc.Fit r) (h : IsS w A (L.map Pc.raw)) (hc : w.cell? ⟨p, 0, none⟩ = some (.int .i64 r.num) ∧ w.cell? ⟨p, 1, none⟩ = some (.int .i64 (r.den : Int))) :
    Calls Try.prog 106 #[.slice A L.length cap, .func (.func 107) #[] #[.pointer (some ⟨p, 0, none⟩)]] w fun e w' => e = .returned (.bool (Pc.inn L r)) ∧ Below w.heap.size w w' := by
  have IX := Lib.hid (indexSpan_any A cap L r p w hl hf hr h hc)
  generalize hz : Pc.inn L r = b at *
  clear hl hf hr h hc hz
  go_enter Try.func106, Try.ntmps106
  go_wp2_with fail
  refine IX.out.mono ?_
  rintro e w1 ⟨z, rfl, h1, h2, hb1⟩
  cases b
  · obtain rfl := h2 rfl
    clear h1 h2
    go_wp2_with fail
    go_ret
    exact ⟨rfl, hb1⟩
  · obtain ⟨h3, _⟩ := h1 rfl
    have hd : decide ((0 : Int) ≤ z) = true := decide_eq_true h3
    clear h1 h2
    go_wp2_with fail
    go_ret
    exact ⟨rfl, hb1⟩
namespace Pc
/-- Has' answer and error. -/
def hasS (xs : List Raw) (n d : Int) : Bool × Int := if chk xs = 0 then (if Rp.Ok n d then (inn (xs.map toQ) (Rp.q n d), 0) else (false, 2)) else (false, chk xs)
end Pc
set_option linter.unusedSimpArgs false in
set_option maxHeartbeats 4000000 in
set_option maxRecDepth 100000 in
theorem pHas_any (A : Option Addr) (cap : Nat) (xs : List Raw) (n d : Int) (w : World) (hn : I64 n) (hd : I64 d) (h : IsS w A xs) :
    Calls Try.prog 41 #[.slice A xs.length cap, .agg #[.int .i64 n, .int .i64 d]] w fun e w' => e = .returned (.tuple #[.bool (Pc.hasS xs n d).1, .int .i64 (Pc.hasS xs n d).2]) ∧ Below w.heap.size w w' := by
  have ck := fun v (hv : Below w.heap.size w v) => pChk_any A cap xs v (h.keep hv)
  have cr := fun v => check_any n d v hn.1 hn.2 hd.1 hd.2
  by_cases hx : Pc.chk xs = 0
  · rw [hx] at ck
    rcases chk_cases n d with ⟨e, ho⟩ | ⟨e, ho⟩
    · rw [e] at cr
      obtain ⟨L, rfl, gL⟩ := Pc.chk_good hx
      have hv : Pc.hasS (L.map Pc.raw) n d = (Pc.inn L (Rp.q n d), 0) := by unfold Pc.hasS; rw [if_pos hx, if_pos ho, Pc.map_toQ_raw]
      rw [hv]
      rw [List.length_map] at ck ⊢
      have hfq := Pc.fit_q ho
      have CF := Lib.hid (fun v p (hv : Below w.heap.size w v) (hc : v.cell? ⟨p, 0, none⟩ = some (.int .i64 (Rp.q n d).num) ∧ v.cell? ⟨p, 1, none⟩ = some (.int .i64 ((Rp.q n d).den : Int))) => containsSpan_any A cap L (Rp.q n d) p v (by have := gL.len; omega) gL.fit hfq (h.keep hv) hc)
      simp only [Rp.q_num ho, Rp.q_denI ho] at CF
      generalize Pc.inn L (Rp.q n d) = b at *
      have CK := Lib.hid ck
      have CR := Lib.hid cr
      clear ck cr hx hv h gL hfq ho e hn hd
      go_enter Try.func41, Try.ntmps41
      go_wp2_with fail
      refine (CK.out _ (below_al (Below.refl _ _) _)).mono ?_
      rintro e w1 ⟨rfl, hb1⟩
      have x0 : w1.cell? ⟨w.heap.size, 0, none⟩ = some (.int .i64 n) := keepC hb1 (n20 _ _ _ _)
      have x1 : w1.cell? ⟨w.heap.size, 1, none⟩ = some (.int .i64 d) := keepC hb1 (n21 _ _ _ _)
      have hbb : Below w.heap.size w w1 := keepB (below_al (Below.refl _ _) _) hb1
      clear hb1
      go_wp2_with fail
      refine (CR.out _).mono ?_
      rintro e w2 ⟨rfl, hb2⟩
      replace x0 := keepC hb2 x0
      replace x1 := keepC hb2 x1
      replace hbb := keepB hbb hb2
      clear hb2
      go_wp2_with fail
      refine (CF.out _ _ hbb ⟨x0, x1⟩).mono ?_
      rintro e w3 ⟨rfl, hb3⟩
      replace hbb := keepB hbb hb3
      clear hb3 x0 x1
      go_wp2_with fail
      go_ret2
      exact ⟨rfl, hbb⟩
    · rw [e] at cr
      have hv : Pc.hasS xs n d = (false, 2) := by unfold Pc.hasS; rw [if_pos hx, if_neg ho]
      rw [hv]
      have CK := Lib.hid ck
      have CR := Lib.hid cr
      clear ck cr hx hv h ho e hn hd
      go_enter Try.func41, Try.ntmps41
      go_wp2_with fail
      refine (CK.out _ (below_al (Below.refl _ _) _)).mono ?_
      rintro e w1 ⟨rfl, hb1⟩
      have x0 : w1.cell? ⟨w.heap.size, 0, none⟩ = some (.int .i64 n) := keepC hb1 (n20 _ _ _ _)
      have x1 : w1.cell? ⟨w.heap.size, 1, none⟩ = some (.int .i64 d) := keepC hb1 (n21 _ _ _ _)
      have hbb : Below w.heap.size w w1 := keepB (below_al (Below.refl _ _) _) hb1
      clear hb1
      go_wp2_with fail
      refine (CR.out _).mono ?_
      rintro e w2 ⟨rfl, hb2⟩
      replace hbb := keepB hbb hb2
      clear hb2 x0 x1
      go_wp2_with fail
      go_ret2
      exact ⟨rfl, hbb⟩
  · have hv : Pc.hasS xs n d = (false, Pc.chk xs) := by unfold Pc.hasS; rw [if_neg hx]
    rw [hv]
    have n1 : (Pc.chk xs != 0) = true := by rw [bne_iff_ne]; exact hx
    generalize Pc.chk xs = c at *
    have CK := Lib.hid ck
    clear ck cr hx hv h hn hd
    go_enter Try.func41, Try.ntmps41
    go_wp2_with fail
    refine (CK.out _ (below_al (Below.refl _ _) _)).mono ?_
    rintro e w1 ⟨rfl, hb1⟩
    have hbb : Below w.heap.size w w1 := keepB (below_al (Below.refl _ _) _) hb1
    clear hb1
    go_wp2_with fail
    go_ret2
    exact ⟨rfl, hbb⟩
end Go.Proofs.Ytomokdepndclpaa
namespace Go.Proofs.Ytomokdepndclpaa
open Go.RowKit
namespace Pc
def leftE (L : List (Rat × Rat)) (r : Rat) : List Rat := swp (fun x y => x && !y) (ends L) [r] false false false
def rightE (L : List (Rat × Rat)) (r : Rat) : List Rat := swp (fun x y => x && y) (ends L) [r] false false false
/-- Cut's pieces and error. -/
def cutS (xs : List Raw) (n d : Int) : List (Rat × Rat) × List (Rat × Rat) × Int :=
  if chk xs = 0 then (if Rp.Ok n d then (pairs (leftE (xs.map toQ) (Rp.q n d)), pairs (rightE (xs.map toQ) (Rp.q n d)), 0) else ([], [], 2)) else ([], [], chk xs)
theorem inc_one (r : Rat) : Inc [r] := ⟨by simp, trivial⟩
theorem cut_fit (f : Bool → Bool → Bool) {L : List (Rat × Rat)} {r : Rat} (gL : Good L) (hr : Fit r) : (∀ q ∈ swp f (ends L) [r] false false false, Fit q) ∧ (swp f (ends L) [r] false false false).length ≤ 121 := by
  rw [swp_chg f _ _ _ (Nat.le_refl _) gL.inc (inc_one r)]
  have l1 := ends_len L
  have g1 := gL.len
  refine ⟨fun q hq => ?_, ?_⟩
  · rcases (mem_mrg _ _ _ (Nat.le_refl _) q).1 (chg_mem hq) with h | h
    · exact gL.fit q h
    · have : q = r := by simpa using h
      rw [this]; exact hr
  · refine Nat.le_trans chg_len (Nat.le_trans (mrg_len _ _ _ (Nat.le_refl _)) ?_)
    simp
    omega
theorem ofE_few {l : List Rat} (h : l.length ≤ 121) : ofE l = (pairs l, 0) := by unfold ofE; rw [if_neg (by omega)]
end Pc
theorem isQ_bk {w : World} {p : Nat} {r : Rat} (h : BK w p [.int .i64 r.num, .int .i64 (r.den : Int)]) : IsQ w (some ⟨p, 0, none⟩) [r] := fun _ => by
  refine ⟨p, 0, rfl, fun i hi => ?_⟩
  have : i = 0 := by simpa using hi
  subst this
  exact ⟨h.c 0 rfl, h.c 1 rfl⟩
set_option linter.unusedSimpArgs false in
set_option maxHeartbeats 8000000 in
set_option maxRecDepth 100000 in
theorem pCut_any (A : Option Addr) (cap : Nat) (xs : List Raw) (n d : Int) (w : World) (hn : I64 n) (hd : I64 d) (h : IsS w A xs) :
    Calls Try.prog 42 #[.slice A xs.length cap, .agg #[.int .i64 n, .int .i64 d]] w fun e w' => ∃ v1 v2, e = .returned (.tuple #[v1, v2, .int .i64 (Pc.cutS xs n d).2.2]) ∧
      w'.ownsRow w.heap.size 51 4 v1 (Pc.cutS xs n d).1.length (Pc.cells4 (Pc.cutS xs n d).1) ∧ w'.ownsRow w.heap.size 51 4 v2 (Pc.cutS xs n d).2.1.length (Pc.cells4 (Pc.cutS xs n d).2.1) ∧ Below w.heap.size w w' := by
  have ck := fun v (hv : Below w.heap.size w v) => pChk_any A cap xs v (h.keep hv)
  have cr := fun v => check_any n d v hn.1 hn.2 hd.1 hd.2
  by_cases hx : Pc.chk xs = 0
  · rw [hx] at ck
    rcases chk_cases n d with ⟨e, ho⟩ | ⟨e, ho⟩
    · rw [e] at cr
      obtain ⟨L, rfl, gL⟩ := Pc.chk_good hx
      obtain ⟨r, hr⟩ : ∃ r, Rp.q n d = r := ⟨_, rfl⟩
      have hfr : Pc.Fit r := hr ▸ Pc.fit_q ho
      have hv : Pc.cutS (L.map Pc.raw) n d = (Pc.pairs (Pc.leftE L r), Pc.pairs (Pc.rightE L r), 0) := by unfold Pc.cutS; rw [if_pos hx, if_pos ho, Pc.map_toQ_raw, hr]
      rw [hv]
      rw [List.length_map] at ck ⊢
      have en : n = r.num ∧ d = (r.den : Int) := by rw [← hr, Rp.q_num ho, Rp.q_denI ho]; exact ⟨rfl, rfl⟩
      obtain ⟨rfl, rfl⟩ := en
      have EN0 := Lib.hid (fun v (hv : Below w.heap.size w v) => endsOf_any A cap L v gL.len (h.keep hv))
      have k1 : (∀ q ∈ Pc.leftE L r, Pc.Fit q) ∧ (Pc.leftE L r).length ≤ 121 := Pc.cut_fit (fun x y => x && !y) gL hfr
      have k2 : (∀ q ∈ Pc.rightE L r, Pc.Fit q) ∧ (Pc.rightE L r).length ≤ 121 := Pc.cut_fit (fun x y => x && y) gL hfr
      have hel := Pc.ends_len L
      have hgl := gL.len
      have SW1 := Lib.hid (fun A' B' ca' cb' v h1 h2 h3 h4 => sweep_any A' B' ca' cb' (Pc.ends L) [r] 99 (fun x y => x && !y) v ponlyFirst_any (fun x y v => by go_simp) h1 h2 gL.fit (fun q hq => by have : q = r := (by simpa using hq); rw [this]; exact hfr) (by simp; omega) h3 h4)
      have SW2 := Lib.hid (fun A' B' ca' cb' v h1 h2 h3 h4 => sweep_any A' B' ca' cb' (Pc.ends L) [r] 98 (fun x y => x && y) v pboth_any (fun x y v => by go_simp) h1 h2 gL.fit (fun q hq => by have : q = r := (by simpa using hq); rw [this]; exact hfr) (by simp; omega) h3 h4)
      have PO1 := (fun A' ca' v h1 => pieceOf_any A' ca' (Pc.leftE L r) v (by have := k1.2; omega) k1.1 h1)
      have PO2 := (fun A' ca' v h1 => pieceOf_any A' ca' (Pc.rightE L r) v (by have := k2.2; omega) k2.1 h1)
      rw [Pc.ofE_few k1.2] at PO1
      rw [Pc.ofE_few k2.2] at PO2
      have PO1 := Lib.hid PO1
      have PO2 := Lib.hid PO2
      have e1 : Pc.swp (fun x y => x && !y) (Pc.ends L) [r] false false false = Pc.leftE L r := rfl
      have e2 : Pc.swp (fun x y => x && y) (Pc.ends L) [r] false false false = Pc.rightE L r := rfl
      rw [e1] at SW1
      rw [e2] at SW2
      generalize Pc.leftE L r = E1 at *
      generalize Pc.rightE L r = E2 at *
      generalize Pc.pairs E1 = R1 at *
      generalize Pc.pairs E2 = R2 at *
      generalize Pc.ends L = E at *
      have CK := Lib.hid ck
      have CR := Lib.hid cr
      clear ck cr hx hv h gL hfr ho e hn hd e1 e2 k1 k2 hel hgl hr
      go_enter Try.func42, Try.ntmps42
      go_wp2_with fail
      refine (CK.out _ (below_al (Below.refl _ _) _)).mono ?_
      rintro e w1 ⟨rfl, hb1⟩
      have x0 : w1.cell? ⟨w.heap.size, 0, none⟩ = some (.int .i64 r.num) := keepC hb1 (n20 _ _ _ _)
      have x1 : w1.cell? ⟨w.heap.size, 1, none⟩ = some (.int .i64 (r.den : Int)) := keepC hb1 (n21 _ _ _ _)
      have hbb : Below w.heap.size w w1 := keepB (below_al (Below.refl _ _) _) hb1
      clear hb1
      go_wp2_with fail
      refine (CR.out _).mono ?_
      rintro e w2 ⟨rfl, hb2⟩
      replace x0 := keepC hb2 x0
      replace x1 := keepC hb2 x1
      replace hbb := keepB hbb hb2
      clear hb2
      go_upto_region 6 with fail
      refine at_worldQ (fun u => Below w.heap.size w u ∧ u.cell? ⟨w.heap.size, 0, none⟩ = some (.int .i64 r.num) ∧ u.cell? ⟨w.heap.size, 1, none⟩ = some (.int .i64 (r.den : Int))) ⟨hbb, x0, x1⟩ (fun V hS => ?_)
      clear hbb x0 x1
      obtain ⟨hbb, x0, x1⟩ := hS
      have EN := Lib.hid (fun v (hv : Below V.heap.size V v) => EN0.out v (keepB hbb hv))
      go_cut [8, 9] (fun x y u => ∃ (A1 : Option Addr) (c1 P : Nat), x = .slice A1 E.length c1 ∧ y = .slice (some ⟨P, 0, none⟩) 1 1 ∧ E.length ≤ c1 ∧ IsQ u A1 E ∧ BK u P [.int .i64 r.num, .int .i64 (r.den : Int)] ∧ Below V.heap.size V u)
      case first =>
        refine wp_region_held_drew (S := (Below V.heap.size V)) (by kernel_rfl) ((Below.refl _ _).drew) (fun hHeld => ?_)
        refine at_anyH (fun u => Below V.heap.size V u) hHeld (fun W0 hNew => ?_)
        clear hHeld
        have hHeld := hNew
        clear hNew
        refine wpAnyH_take (i := 0) (oi := _) (v := ?vc1) rfl (by kernel_rfl) (by kernel_rfl) (by kernel_rfl) (fun _ _ _ h => h) (Or.inl ⟨by kernel_rfl, ?hyc1⟩) hHeld ?restc1
        case hyc1 => (intro w hSw; go_simp; first | done | (with_reducible rfl))
        try simp only [Act.put, List.getElem_toArray, List.getElem_cons_succ, List.getElem_cons_zero, List.setIfInBounds_toArray, List.set_cons_zero, List.set_cons_succ]
        refine wpAnyH_take (i := 2) (oi := _) (v := ?vc2) rfl (by kernel_rfl) (by kernel_rfl) (by kernel_rfl) (fun _ _ _ h => h) (Or.inl ⟨by kernel_rfl, ?hyc2⟩) hHeld ?restc2
        case hyc2 => (intro w hSw; have kx0 := keepC hSw x0; have kx1 := keepC hSw x1; go_simp; first | done | (with_reducible rfl))
        try simp only [Act.put, List.getElem_toArray, List.getElem_cons_succ, List.getElem_cons_zero, List.setIfInBounds_toArray, List.set_cons_zero, List.set_cons_succ]
        refine wpAnyH_ready (rs := [1, 3]) (by kernel_rfl) (by simp) (AllReadyH.cons (o := _) rfl (fun K hK => ?_) (AllReadyH.cons (o := _) rfl (fun K hK => ?_) AllReadyH.nil))
        ·
          go_simp
          refine (EN.out _ hHeld).mono ?_
          rintro e W2x1 ⟨v1, rfl, hv1⟩
          obtain ⟨A1, c1, rfl, hc1⟩ := row_cap hv1.row
          have q1 := isQ_row hv1.row rfl
          have hb3 := hv1.bb
          clear hv1
          go_wp2_with fail
          refine hK.out _ _ (keepB hHeld hb3) (fun hNew => ?_)
          clear hb3 hHeld hK K
          have hHeld := hNew
          clear hNew
          try simp only [Act.put, List.getElem_toArray, List.getElem_cons_succ, List.getElem_cons_zero, List.setIfInBounds_toArray, List.set_cons_zero, List.set_cons_succ]
          refine wpAnyH_take (i := 4) (oi := _) (v := ?vc4) rfl (by kernel_rfl) (by kernel_rfl) (by kernel_rfl) (fun _ _ _ h => h) (Or.inl ⟨by kernel_rfl, ?hyc4⟩) hHeld ?restc4
          case hyc4 => (intro w hSw; go_simp; first | done | (with_reducible rfl))
          try simp only [Act.put, List.getElem_toArray, List.getElem_cons_succ, List.getElem_cons_zero, List.setIfInBounds_toArray, List.set_cons_zero, List.set_cons_succ]
          refine wpAnyH_ready (rs := [3]) (by kernel_rfl) (by simp) (AllReadyH.cons (o := _) rfl (fun K hK => ?_) AllReadyH.nil)
          go_simp
          refine hK.out _ _ (below_al hHeld _) (fun hNew => ?_)
          have BB := BK.new W2x1 [.int .i64 r.num, .int .i64 (r.den : Int)] 30
          replace q1 := q1.keep (below_al (Below.refl _ _) (.cells #[.int .i64 r.num, .int .i64 (r.den : Int)] 30))
          clear hHeld hK K
          have hHeld := hNew
          clear hNew
          try simp only [Act.put, List.getElem_toArray, List.getElem_cons_succ, List.getElem_cons_zero, List.setIfInBounds_toArray, List.set_cons_zero, List.set_cons_succ]
          refine at_anyH (fun u => Below V.heap.size V u ∧ BK u W2x1.heap.size [.int .i64 r.num, .int .i64 (r.den : Int)] ∧ IsQ u A1 E) ⟨hHeld, BB, q1⟩ (fun W4x3 hS => ?_)
          clear hHeld BB q1
          obtain ⟨hHeld, BB, q1⟩ := hS
          refine wpAnyH_take (i := 5) (oi := _) (v := ?vc6) rfl (by kernel_rfl) (by kernel_rfl) (by kernel_rfl) (fun _ _ _ h => h) (Or.inl ⟨by kernel_rfl, ?hyc6⟩) hHeld ?restc6
          case hyc6 => (intro w hSw; go_simp; first | done | (with_reducible rfl))
          try simp only [Act.put, List.getElem_toArray, List.getElem_cons_succ, List.getElem_cons_zero, List.setIfInBounds_toArray, List.set_cons_zero, List.set_cons_succ]
          refine wpAnyH_done (by kernel_rfl) ?_ _
          go_wp2_with fail
          go_meet
          exact ⟨_, _, _, rfl, rfl, hc1, q1, BB, hHeld⟩
        ·
          go_simp
          refine hK.out _ _ (below_al hHeld _) (fun hNew => ?_)
          have BB := BK.new W0 [.int .i64 r.num, .int .i64 (r.den : Int)] 30
          clear hHeld hK K
          have hHeld := hNew
          clear hNew
          try simp only [Act.put, List.getElem_toArray, List.getElem_cons_succ, List.getElem_cons_zero, List.setIfInBounds_toArray, List.set_cons_zero, List.set_cons_succ]
          refine at_anyH (fun u => Below V.heap.size V u ∧ BK u W0.heap.size [.int .i64 r.num, .int .i64 (r.den : Int)]) ⟨hHeld, BB⟩ (fun W6x3 hS => ?_)
          clear hHeld BB
          obtain ⟨hHeld, BB⟩ := hS
          refine wpAnyH_ready (rs := [1]) (by kernel_rfl) (by simp) (AllReadyH.cons (o := _) rfl (fun K hK => ?_) AllReadyH.nil)
          go_simp
          refine (EN.out _ hHeld).mono ?_
          rintro e W7x1 ⟨v1, rfl, hv1⟩
          obtain ⟨A1, c1, rfl, hc1⟩ := row_cap hv1.row
          have q1 := isQ_row hv1.row rfl
          have hb3 := hv1.bb
          clear hv1
          replace BB := BB.keep hb3
          go_wp2_with fail
          refine hK.out _ _ (keepB hHeld hb3) (fun hNew => ?_)
          clear hb3 hHeld hK K
          have hHeld := hNew
          clear hNew
          try simp only [Act.put, List.getElem_toArray, List.getElem_cons_succ, List.getElem_cons_zero, List.setIfInBounds_toArray, List.set_cons_zero, List.set_cons_succ]
          refine wpAnyH_take (i := 4) (oi := _) (v := ?vc9) rfl (by kernel_rfl) (by kernel_rfl) (by kernel_rfl) (fun _ _ _ h => h) (Or.inl ⟨by kernel_rfl, ?hyc9⟩) hHeld ?restc9
          case hyc9 => (intro w hSw; go_simp; first | done | (with_reducible rfl))
          try simp only [Act.put, List.getElem_toArray, List.getElem_cons_succ, List.getElem_cons_zero, List.setIfInBounds_toArray, List.set_cons_zero, List.set_cons_succ]
          refine wpAnyH_take (i := 5) (oi := _) (v := ?vc10) rfl (by kernel_rfl) (by kernel_rfl) (by kernel_rfl) (fun _ _ _ h => h) (Or.inl ⟨by kernel_rfl, ?hyc10⟩) hHeld ?restc10
          case hyc10 => (intro w hSw; go_simp; first | done | (with_reducible rfl))
          try simp only [Act.put, List.getElem_toArray, List.getElem_cons_succ, List.getElem_cons_zero, List.setIfInBounds_toArray, List.set_cons_zero, List.set_cons_succ]
          refine wpAnyH_done (by kernel_rfl) ?_ _
          go_wp2_with fail
          go_meet
          exact ⟨_, _, _, rfl, rfl, hc1, q1, BB, hHeld⟩
      case rest =>
        obtain ⟨A1, c1, P, rfl, rfl, hc1, q1, BB, hv⟩ := hcut
        replace hbb := keepB hbb hv
        have q2 := isQ_bk BB
        clear hv BB EN EN0 x0 x1
        go_wp2_with fail
        refine (SW1.out _ _ _ _ _ q1 q2 hc1 (by simp)).mono ?_
        rintro e w3 ⟨v3, rfl, hv3⟩
        obtain ⟨A3, c3, rfl, -⟩ := row_cap hv3.row
        have q3 := isQ_row hv3.row rfl
        replace q1 := q1.keep hv3.bb
        replace q2 := q2.keep hv3.bb
        replace hbb := keepB hbb hv3.bb
        clear hv3
        go_wp2_with fail
        refine (PO1.out _ _ _ q3).mono ?_
        rintro e w4 ⟨v4, rfl, hv4⟩
        have r4 := World.ownsRow.mono hv4.row hbb.size
        obtain ⟨A4, c4, rfl, -⟩ := row_cap r4
        replace q1 := q1.keep hv4.bb
        replace q2 := q2.keep hv4.bb
        replace hbb := keepB hbb hv4.bb
        clear hv4 q3
        go_wp2_with fail
        refine (SW2.out _ _ _ _ _ q1 q2 hc1 (by simp)).mono ?_
        rintro e w5 ⟨v5, rfl, hv5⟩
        obtain ⟨A5, c5, rfl, -⟩ := row_cap hv5.row
        have q5 := isQ_row hv5.row rfl
        replace r4 := row_keep r4 hv5.bb
        replace hbb := keepB hbb hv5.bb
        clear hv5 q1 q2
        go_wp2_with fail
        refine (PO2.out _ _ _ q5).mono ?_
        rintro e w6 ⟨v6, rfl, hv6⟩
        have r6 := World.ownsRow.mono hv6.row hbb.size
        obtain ⟨A6, c6, rfl, -⟩ := row_cap r6
        replace r4 := row_keep r4 hv6.bb
        replace hbb := keepB hbb hv6.bb
        clear hv6 q5
        go_wp2_with fail
        go_ret3
        exact ⟨_, _, rfl, r4, r6, hbb⟩
    · rw [e] at cr
      have hv : Pc.cutS xs n d = ([], [], 2) := by unfold Pc.cutS; rw [if_pos hx, if_neg ho]
      rw [hv]
      have CK := Lib.hid ck
      have CR := Lib.hid cr
      clear ck cr hx hv h ho e hn hd
      go_enter Try.func42, Try.ntmps42
      go_wp2_with fail
      refine (CK.out _ (below_al (Below.refl _ _) _)).mono ?_
      rintro e w1 ⟨rfl, hb1⟩
      have x0 : w1.cell? ⟨w.heap.size, 0, none⟩ = some (.int .i64 n) := keepC hb1 (n20 _ _ _ _)
      have x1 : w1.cell? ⟨w.heap.size, 1, none⟩ = some (.int .i64 d) := keepC hb1 (n21 _ _ _ _)
      have hbb : Below w.heap.size w w1 := keepB (below_al (Below.refl _ _) _) hb1
      clear hb1
      go_wp2_with fail
      refine (CR.out _).mono ?_
      rintro e w2 ⟨rfl, hb2⟩
      replace hbb := keepB hbb hb2
      clear hb2 x0 x1
      go_wp2_with fail
      go_ret3
      exact ⟨_, _, rfl, World.ownsRow_nil _ _ _ _, World.ownsRow_nil _ _ _ _, hbb⟩
  · have hv : Pc.cutS xs n d = ([], [], Pc.chk xs) := by unfold Pc.cutS; rw [if_neg hx]
    rw [hv]
    have n1 : (Pc.chk xs != 0) = true := by rw [bne_iff_ne]; exact hx
    generalize Pc.chk xs = c at *
    have CK := Lib.hid ck
    clear ck cr hx hv h hn hd
    go_enter Try.func42, Try.ntmps42
    go_wp2_with fail
    refine (CK.out _ (below_al (Below.refl _ _) _)).mono ?_
    rintro e w1 ⟨rfl, hb1⟩
    have hbb : Below w.heap.size w w1 := keepB (below_al (Below.refl _ _) _) hb1
    clear hb1
    go_wp2_with fail
    go_ret3
    exact ⟨_, _, rfl, World.ownsRow_nil _ _ _ _, World.ownsRow_nil _ _ _ _, hbb⟩
end Go.Proofs.Ytomokdepndclpaa
namespace Go.Proofs.Ytomokdepndclpaa
open Go.RowKit
namespace Pc
/-- The sum of a measure, from an accumulated ratio on. -/
def sumF (mf : Rat × Rat → Int × Int × Int) : List (Rat × Rat) → Int → Int → Int × Int × Int
  | [], a, b => (a, b, 0)
  | s :: l, a, b => if (mf s).2.2 = 0 then (if (Rp.addS a b (mf s).1 (mf s).2.1).2.2 = 0 then sumF mf l (Rp.addS a b (mf s).1 (mf s).2.1).1 (Rp.addS a b (mf s).1 (mf s).2.1).2.1 else (0, 0, (Rp.addS a b (mf s).1 (mf s).2.1).2.2)) else (0, 0, (mf s).2.2)
theorem low_bd (n d : Int) : I64 (Rp.low n d).1 ∧ I64 (Rp.low n d).2.1 ∧ (0 ≤ (Rp.low n d).2.2 ∧ (Rp.low n d).2.2 ≤ 18) := by
  unfold Rp.low
  split
  · unfold I64; dsimp only; omega
  · unfold I64; dsimp only; omega
theorem addS_bd (a b c d : Int) : I64 (Rp.addS a b c d).1 ∧ I64 (Rp.addS a b c d).2.1 := by
  unfold Rp.addS
  split
  · exact ⟨(low_bd _ _).1, (low_bd _ _).2.1⟩
  · unfold I64; dsimp only; omega
theorem subS_bd (a b c d : Int) : I64 (Rp.subS a b c d).1 ∧ I64 (Rp.subS a b c d).2.1 := by
  unfold Rp.subS
  split
  · exact ⟨(low_bd _ _).1, (low_bd _ _).2.1⟩
  · unfold I64; dsimp only; omega
end Pc
set_option linter.unusedSimpArgs false in
set_option maxHeartbeats 8000000 in
set_option maxRecDepth 100000 in
theorem sum_any (g : FuncId) (mf : Rat × Rat → Int × Int × Int) (A : Option Addr) (cap : Nat) (L : List (Rat × Rat)) (w : World) (hl : L.length ≤ 1000) (h : IsS w A (L.map Pc.raw))
    (hM : ∀ s ∈ L, ∀ v, Calls Try.prog g #[.agg #[.int .i64 s.1.num, .int .i64 (s.1.den : Int), .int .i64 s.2.num, .int .i64 (s.2.den : Int)]] v fun e w' => e = .returned (.tuple #[.agg #[.int .i64 (mf s).1, .int .i64 (mf s).2.1], .int .i64 (mf s).2.2]) ∧ Below v.heap.size v w')
    (hE : ∀ (x : Value) (v : World), Sem.run Try.prog (callFunc g #[x]) v = .ok (.enter g #[x]) v) (hB : ∀ s ∈ L, I64 (mf s).1 ∧ I64 (mf s).2.1) :
    Calls Try.prog 101 #[.slice A L.length cap, .func (.func g) #[] #[]] w fun e w' => e = .returned (.tuple #[.agg #[.int .i64 (Pc.sumF mf L 0 1).1, .int .i64 (Pc.sumF mf L 0 1).2.1], .int .i64 (Pc.sumF mf L 0 1).2.2]) ∧ Below w.heap.size w w' := by
  obtain ⟨b, off, hA, hc⟩ := h.cell
  have HC := Lib.hid hc
  have HA := Lib.hid hA
  have HMM := Lib.hid (show ∀ k, k < L.length → (∀ v, Calls Try.prog g #[.agg #[.int .i64 (Pc.sat L k).1.num, .int .i64 ((Pc.sat L k).1.den : Int), .int .i64 (Pc.sat L k).2.num, .int .i64 ((Pc.sat L k).2.den : Int)]] v fun e w' => e = .returned (.tuple #[.agg #[.int .i64 (mf (Pc.sat L k)).1, .int .i64 (mf (Pc.sat L k)).2.1], .int .i64 (mf (Pc.sat L k)).2.2]) ∧ Below v.heap.size v w') ∧ I64 (mf (Pc.sat L k)).1 ∧ I64 (mf (Pc.sat L k)).2.1 from fun k hk => by
    rw [Pc.sat_lt hk]
    exact ⟨hM _ (List.getElem_mem hk), hB _ (List.getElem_mem hk)⟩)
  have HE := Lib.hid hE
  obtain ⟨R, hR⟩ : ∃ R, Pc.sumF mf L 0 1 = R := ⟨_, rfl⟩
  rw [hR]
  obtain ⟨R1, R2, R3⟩ := R
  dsimp only
  have HR := Lib.hid hR
  clear h hc hA hM hE hB hR
  go_enter Try.func101, Try.ntmps101
  go_upto_region 2 with fail
  refine at_worldQ (fun v => Below w.heap.size w v ∧ BK v w.heap.size [.int .i64 0, .int .i64 0] ∧ BK v (w.heap.size + 1) [.int .i64 0, .int .i64 1]) ⟨below_al (below_al (Below.refl _ _) _) _, (BK.new w [.int .i64 0, .int .i64 0] _).al _, by have b := BK.new (w.alloc (.cells #[.int .i64 0, .int .i64 0] 30)) [.int .i64 0, .int .i64 1] 30; simpa only [World.size_alloc] using b⟩ (fun V hS => ?_)
  go_wp2_with fail
  go_loopw [8, 9, 10, 14] (fun _ _ _ i W => ∃ (k : Nat) (a c : Int), k ≤ L.length ∧ i = .int .i64 k ∧ Pc.sumF mf (L.drop k) a c = (R1, R2, R3) ∧ (I64 a ∧ I64 c) ∧ Below w.heap.size w W ∧ BK W w.heap.size [.int .i64 0, .int .i64 0] ∧ BK W (w.heap.size + 1) [.int .i64 a, .int .i64 c]) (fun _ _ _ i _ => L.length - (intOf i).toNat)
  case atStart => exact ⟨0, 0, 1, Nat.zero_le _, rfl, HR.out, ⟨⟨by decide, by decide⟩, by decide, by decide⟩, hS.1, hS.2.1, hS.2.2⟩
  case round =>
    clear hS HR
    obtain ⟨k, a, c, hk, rfl, hsum, ⟨ha, hcc⟩, hbb, B0, B1⟩ := hrel
    by_cases hlt : k < L.length
    · have hA' := HA.out (by omega)
      subst hA'
      obtain ⟨s, hs⟩ : ∃ s, Pc.sat L k = s := ⟨_, rfl⟩
      have c0 := keepC hbb (HC.out k hlt).1
      have c1 := keepC hbb (HC.out k hlt).2.1
      have c2 := keepC hbb (HC.out k hlt).2.2.1
      have c3 := keepC hbb (HC.out k hlt).2.2.2
      obtain ⟨hm, hm1, hm2⟩ := HMM.out k hlt
      have hdr : L.drop k = s :: L.drop (k + 1) := by rw [List.drop_eq_getElem_cons hlt, ← Pc.sat_lt hlt, hs]
      rw [hdr] at hsum
      rw [hs] at c0 c1 c2 c3 hm hm1 hm2
      unfold Pc.sumF at hsum
      have hcf := HE.out (.agg #[.int .i64 s.1.num, .int .i64 (s.1.den : Int), .int .i64 s.2.num, .int .i64 (s.2.den : Int)])
      have ad := fun v => Add_any a c (mf s).1 (mf s).2.1 v ha.1 ha.2 hcc.1 hcc.2 hm1.1 hm1.2 hm2.1 hm2.2
      have hab := Pc.addS_bd a c (mf s).1 (mf s).2.1
      generalize Rp.addS a c (mf s).1 (mf s).2.1 = T at *
      obtain ⟨T1, T2, T3⟩ := T
      generalize mf s = M at *
      obtain ⟨M1, M2, M3⟩ := M
      dsimp only at hm ad hsum hab
      have HM := Lib.hid hm
      have AD := Lib.hid ad
      have HAB := Lib.hid hab
      have HSUM := Lib.hid hsum
      clear hm ad hs hdr hm1 hm2 ha hcc hab hsum
      have i1 : (0 : Int) ≤ (k : Int) := by omega
      have i2 : (k : Int) < (L.length : Int) := by omega
      go_upto_region 5 with fail
      refine at_worldQ (fun v => Below w.heap.size w v ∧ BK v w.heap.size [.int .i64 0, .int .i64 0] ∧ BK v (w.heap.size + 1) [.int .i64 a, .int .i64 c] ∧ BK v wr.heap.size [.int .i64 s.1.num, .int .i64 (s.1.den : Int), .int .i64 s.2.num, .int .i64 (s.2.den : Int)]) ⟨below_al hbb _, B0.al _, B1.al _, BK.new wr [.int .i64 s.1.num, .int .i64 (s.1.den : Int), .int .i64 s.2.num, .int .i64 (s.2.den : Int)] _⟩ (fun V5 hS5 => ?_)
      clear hbb B0 B1 c0 c1 c2 c3
      obtain ⟨hbb, B0, B1, B8⟩ := hS5
      have p0 := B8.c 0 rfl
      have p1 := B8.c 1 rfl
      have p2 := B8.c 2 rfl
      have p3 := B8.c 3 rfl
      generalize wr.heap.size = P8 at *
      clear B8
      go_wp2_with fail
      refine (HM.out _).mono ?_
      rintro e w5 ⟨rfl, hb5⟩
      replace hbb := keepB hbb hb5
      replace B0 := B0.keep hb5
      replace B1 := B1.keep hb5
      clear hb5 HM p0 p1 p2 p3 hcf
      go_upto_region 6 with fail
      refine at_worldQ (fun v => Below w.heap.size w v ∧ BK v w.heap.size [.int .i64 0, .int .i64 0] ∧ BK v (w.heap.size + 1) [.int .i64 a, .int .i64 c] ∧ BK v w5.heap.size [.int .i64 M1, .int .i64 M2]) ⟨below_al hbb _, B0.al _, B1.al _, BK.new w5 [.int .i64 M1, .int .i64 M2] _⟩ (fun V6 hS6 => ?_)
      clear hbb B0 B1
      obtain ⟨hbb, B0, B1, B9⟩ := hS6
      generalize w5.heap.size = P9 at *
      by_cases hM3 : M3 = 0
      · subst hM3
        have e0 : ((0 : Int) == 0) = true := rfl
        have q0 := B9.c 0 rfl
        have q1 := B9.c 1 rfl
        have t0 := B1.c 0 rfl
        have t1 := B1.c 1 rfl
        go_wp2_with fail
        refine (AD.out _).mono ?_
        rintro e w7 ⟨rfl, hb7⟩
        replace hbb := keepB hbb hb7
        replace B0 := B0.keep hb7
        replace B1 := B1.keep hb7
        clear hb7 AD q0 q1 t0 t1 B9
        have t0 := B1.c 0 rfl
        have t1 := B1.c 1 rfl
        have g0 := B1.f 0 rfl
        have g1 := B1.f 1 rfl
        go_upto_region 8 with fail
        refine at_worldQ (fun v => Below w.heap.size w v ∧ BK v w.heap.size [.int .i64 0, .int .i64 0] ∧ BK v (w.heap.size + 1) [.int .i64 T1, .int .i64 T2]) ⟨below_set (below_set hbb (by omega) _) (by omega) _, (B0.far (by omega) _ _).far (by omega) _ _, (B1.set 0 _).set 1 _⟩ (fun V8 hS8 => ?_)
        clear hbb B0 B1 t0 t1 g0 g1
        obtain ⟨hbb, B0, B1⟩ := hS8
        by_cases hT : T3 = 0
        · subst hT
          have hs2 := HSUM.out
          simp only [↓reduceIte] at hs2
          have HS2 := Lib.hid hs2
          have e1 : ((0 : Int) != 0) = false := rfl
          clear hs2 HSUM
          go_wp2_with fail
          go_roundw
          case rel => exact ⟨k + 1, T1, T2, by omega, by go_num, HS2.out, HAB.out, hbb, B0, B1⟩
          case measure => simp [intOf]; omega
        · have hs2 := HSUM.out
          simp only [↓reduceIte, if_neg hT] at hs2
          have EB := Lib.hid hs2.symm
          have e1 : (T3 != 0) = true := by rw [bne_iff_ne]; exact hT
          clear hs2 HSUM hT
          have r0 := B0.c 0 rfl
          have r1 := B0.c 1 rfl
          have f0 := B0.f 0 rfl
          have f1 := B0.f 1 rfl
          go_wp2_with fail
          exact bodyPost_ret (v := .tuple #[.agg #[.int .i64 0, .int .i64 0], .int .i64 T3]) (by simp [results, Try.results101, go_sem, r0, r1]) rfl ⟨by have e := EB.out; simp only [Prod.mk.injEq] at e; obtain ⟨e1', e2', e3'⟩ := e; rw [e1', e2', e3'], below_set (below_set hbb (Nat.le_refl _) _) (Nat.le_refl _) _⟩
      · have hs2 := HSUM.out
        rw [if_neg hM3] at hs2
        have EB := Lib.hid hs2.symm
        have e0 : (M3 == 0) = false := by rw [beq_eq_false_iff_ne]; exact hM3
        have e1 : (M3 != 0) = true := by rw [bne_iff_ne]; exact hM3
        clear hs2 HSUM hM3
        have r0 := B0.c 0 rfl
        have r1 := B0.c 1 rfl
        have f0 := B0.f 0 rfl
        have f1 := B0.f 1 rfl
        go_wp2_with fail
        exact bodyPost_ret (v := .tuple #[.agg #[.int .i64 0, .int .i64 0], .int .i64 M3]) (by simp [results, Try.results101, go_sem, r0, r1]) rfl ⟨by have e := EB.out; simp only [Prod.mk.injEq] at e; obtain ⟨e1', e2', e3'⟩ := e; rw [e1', e2', e3'], below_set (below_set hbb (Nat.le_refl _) _) (Nat.le_refl _) _⟩
    · obtain rfl : k = L.length := by omega
      rw [List.drop_length] at hsum
      have EB := Lib.hid hsum
      have t0 := B1.c 0 rfl
      have t1 := B1.c 1 rfl
      have r0 := B0.c 0 rfl
      have r1 := B0.c 1 rfl
      have f0 := B0.f 0 rfl
      have f1 := B0.f 1 rfl
      clear HA HC HMM HE hsum
      go_wp2_with fail
      have e := EB.out
      unfold Pc.sumF at e
      simp only [Prod.mk.injEq] at e
      obtain ⟨rfl, rfl, rfl⟩ := e
      exact bodyPost_ret (v := .tuple #[.agg #[.int .i64 a, .int .i64 c], .int .i64 0]) (by simp [results, Try.results101, go_sem, r0, r1]) rfl ⟨rfl, below_set (below_set hbb (Nat.le_refl _) _) (Nat.le_refl _) _⟩
namespace Pc
def lenM (s : Rat × Rat) : Int × Int × Int := Rp.subS s.2.num (s.2.den : Int) s.1.num (s.1.den : Int)
/-- Length's answer and error. -/
def lenS (xs : List Raw) : Int × Int × Int := if chk xs = 0 then sumF lenM (xs.map toQ) 0 1 else (0, 0, chk xs)
end Pc
set_option maxHeartbeats 2000000 in
theorem len1_any (s : Rat × Rat) (w : World) (h1 : Pc.Fit s.1) (h2 : Pc.Fit s.2) :
    Calls Try.prog 110 #[.agg #[.int .i64 s.1.num, .int .i64 (s.1.den : Int), .int .i64 s.2.num, .int .i64 (s.2.den : Int)]] w fun e w' => e = .returned (.tuple #[.agg #[.int .i64 (Pc.lenM s).1, .int .i64 (Pc.lenM s).2.1], .int .i64 (Pc.lenM s).2.2]) ∧ Below w.heap.size w w' := by
  have b1 := Pc.fit_bd h1
  have b2 := Pc.fit_bd h2
  have SB := (fun v => Sub_any s.2.num (s.2.den : Int) s.1.num (s.1.den : Int) v (by omega) (by omega) (by omega) (by omega) (by omega) (by omega) (by omega) (by omega))
  have e : Rp.subS s.2.num (s.2.den : Int) s.1.num (s.1.den : Int) = Pc.lenM s := rfl
  rw [e] at SB
  clear e
  generalize Pc.lenM s = R at *
  obtain ⟨R1, R2, R3⟩ := R
  dsimp only at SB
  have SS := Lib.hid SB
  dsimp only
  clear b1 b2 SB h1 h2
  go_enter Try.func110, Try.ntmps110
  go_upto_region 1 with fail
  refine at_worldQ (fun v => Below w.heap.size w v ∧ BK v w.heap.size [.int .i64 s.1.num, .int .i64 (s.1.den : Int), .int .i64 s.2.num, .int .i64 (s.2.den : Int)] ∧ BK v (w.heap.size + 1) [.int .i64 0, .int .i64 0]) ⟨below_al (below_al (Below.refl _ _) _) _, (BK.new w [.int .i64 s.1.num, .int .i64 (s.1.den : Int), .int .i64 s.2.num, .int .i64 (s.2.den : Int)] _).al _, by have b := BK.new (w.alloc (.cells #[.int .i64 s.1.num, .int .i64 (s.1.den : Int), .int .i64 s.2.num, .int .i64 (s.2.den : Int)] 51)) [.int .i64 0, .int .i64 0] 30; simpa only [World.size_alloc] using b⟩ (fun V hS => ?_)
  obtain ⟨hbb, B1, B2⟩ := hS
  have p0 := B1.c 0 rfl
  have p1 := B1.c 1 rfl
  have p2 := B1.c 2 rfl
  have p3 := B1.c 3 rfl
  go_wp2_with fail
  refine (SS.out _).mono ?_
  rintro e w1 ⟨rfl, hb1⟩
  replace hbb := keepB hbb hb1
  replace B2 := B2.keep hb1
  clear hb1 B1 p0 p1 p2 p3
  have r0 := B2.c 0 rfl
  have r1 := B2.c 1 rfl
  have f0 := B2.f 0 rfl
  have f1 := B2.f 1 rfl
  go_wp2_with fail
  exact bodyPost_ret (v := .tuple #[.agg #[.int .i64 R1, .int .i64 R2], .int .i64 R3]) (by simp [results, Try.results110, go_sem, r0, r1]) rfl ⟨rfl, below_set (below_set hbb (by omega) _) (by omega) _⟩
set_option linter.unusedSimpArgs false in
set_option maxHeartbeats 2000000 in
theorem pLength_any (A : Option Addr) (cap : Nat) (xs : List Raw) (w : World) (h : IsS w A xs) :
    Calls Try.prog 43 #[.slice A xs.length cap] w fun e w' => e = .returned (.tuple #[.agg #[.int .i64 (Pc.lenS xs).1, .int .i64 (Pc.lenS xs).2.1], .int .i64 (Pc.lenS xs).2.2]) ∧ Below w.heap.size w w' := by
  have ck := fun v (hv : Below w.heap.size w v) => pChk_any A cap xs v (h.keep hv)
  by_cases hx : Pc.chk xs = 0
  · rw [hx] at ck
    obtain ⟨L, rfl, gL⟩ := Pc.chk_good hx
    have hv : Pc.lenS (L.map Pc.raw) = Pc.sumF Pc.lenM L 0 1 := by unfold Pc.lenS; rw [if_pos hx, Pc.map_toQ_raw]
    rw [hv]
    rw [List.length_map] at ck ⊢
    have SU := fun v (hv : Below w.heap.size w v) => sum_any 110 Pc.lenM A cap L v (by have := gL.len; omega) (h.keep hv) (fun s hs v => by
      obtain ⟨k, hk, rfl⟩ := List.mem_iff_getElem.1 hs
      have hm := Pc.mem_ends1 hk
      rw [Pc.sat_lt hk] at hm
      exact len1_any _ v (gL.fit _ hm.1) (gL.fit _ hm.2)) (fun x v => by go_simp) (fun s hs => Pc.subS_bd _ _ _ _)
    generalize Pc.sumF Pc.lenM L 0 1 = R at *
    obtain ⟨R1, R2, R3⟩ := R
    dsimp only at SU ⊢
    have CK := Lib.hid ck
    have SS := Lib.hid SU
    clear ck hx hv h gL SU
    go_enter Try.func43, Try.ntmps43
    go_upto_region 1 with fail
    refine at_worldQ (fun v => Below w.heap.size w v ∧ BK v w.heap.size [.int .i64 0, .int .i64 0]) ⟨below_al (Below.refl _ _) _, BK.new w [.int .i64 0, .int .i64 0] _⟩ (fun V hS => ?_)
    obtain ⟨hbb, B2⟩ := hS
    go_wp2_with fail
    refine (CK.out _ hbb).mono ?_
    rintro e w1 ⟨rfl, hb1⟩
    replace hbb := keepB hbb hb1
    replace B2 := B2.keep hb1
    clear hb1
    go_wp2_with fail
    refine (SS.out _ hbb).mono ?_
    rintro e w2 ⟨rfl, hb1⟩
    replace hbb := keepB hbb hb1
    replace B2 := B2.keep hb1
    clear hb1
    have r0 := B2.c 0 rfl
    have r1 := B2.c 1 rfl
    have f0 := B2.f 0 rfl
    have f1 := B2.f 1 rfl
    go_wp2_with fail
    exact bodyPost_ret (v := .tuple #[.agg #[.int .i64 R1, .int .i64 R2], .int .i64 R3]) (by simp [results, Try.results43, go_sem, r0, r1]) rfl ⟨rfl, below_set (below_set hbb (Nat.le_refl _) _) (Nat.le_refl _) _⟩
  · have hv : Pc.lenS xs = (0, 0, Pc.chk xs) := by unfold Pc.lenS; rw [if_neg hx]
    rw [hv]
    have n1 : (Pc.chk xs != 0) = true := by rw [bne_iff_ne]; exact hx
    generalize Pc.chk xs = c at *
    have CK := Lib.hid ck
    clear ck hx hv h
    dsimp only
    go_enter Try.func43, Try.ntmps43
    go_upto_region 1 with fail
    refine at_worldQ (fun v => Below w.heap.size w v ∧ BK v w.heap.size [.int .i64 0, .int .i64 0]) ⟨below_al (Below.refl _ _) _, BK.new w [.int .i64 0, .int .i64 0] _⟩ (fun V hS => ?_)
    obtain ⟨hbb, B2⟩ := hS
    go_wp2_with fail
    refine (CK.out _ hbb).mono ?_
    rintro e w1 ⟨rfl, hb1⟩
    replace hbb := keepB hbb hb1
    replace B2 := B2.keep hb1
    clear hb1
    have r0 := B2.c 0 rfl
    have r1 := B2.c 1 rfl
    have f0 := B2.f 0 rfl
    have f1 := B2.f 1 rfl
    go_wp2_with fail
    exact bodyPost_ret (v := .tuple #[.agg #[.int .i64 0, .int .i64 0], .int .i64 c]) (by simp [results, Try.results43, go_sem, r0, r1]) rfl ⟨rfl, below_set (below_set hbb (Nat.le_refl _) _) (Nat.le_refl _) _⟩
end Go.Proofs.Ytomokdepndclpaa
