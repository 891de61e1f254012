/- Package assign: valueOf, Value, Proves. -/
import Derived.Test.YtpiolhjiflohgaaAsb
import Derived.Deep.QuietTactic
import Derived.BigQuiet
namespace Go.Proofs.Ytpiolhjiflohgaa
open Go.RowKit
namespace As
theorem take_all {α : Type} {l : List α} {n : Nat} (h : l.length = n) : l.take n = l := by subst h; exact List.take_length
/-- Would the agent i not rather have another item? -/
def rowB (V : List (List Int)) (a : List Nat) (p : List Int) (i : Nat) : Bool := (List.range V.length).all (fun j => !decide (vl V i (a.getD i 0) - el p (a.getD i 0) < vl V i j - el p j))
/-- Do prices prove an assignment? -/
def contB (V : List (List Int)) (a : List Nat) (p : List Int) : Bool := (List.range V.length).all (rowB V a p)
theorem rowB_yes {V : List (List Int)} {a : List Nat} {p : List Int} {i : Nat} (h : ∀ j, j < V.length → vl V i j - el p j ≤ vl V i (a.getD i 0) - el p (a.getD i 0)) : rowB V a p i = true := by
  unfold rowB; rw [List.all_eq_true]; intro j hj; have := h j (by simpa using hj); rw [Bool.not_eq_true', decide_eq_false_iff_not]; omega
theorem contB_no {V : List (List Int)} {a : List Nat} {p : List Int} {i j : Nat} (hi : i < V.length) (hj : j < V.length) (h : vl V i (a.getD i 0) - el p (a.getD i 0) < vl V i j - el p j) : contB V a p = false := by
  unfold contB; rw [List.all_eq_false]; refine ⟨i, by simpa using hi, ?_⟩
  unfold rowB; rw [Bool.not_eq_true, List.all_eq_false]; exact ⟨j, by simpa using hj, by simpa using h⟩
theorem contB_yes {V : List (List Int)} {a : List Nat} {p : List Int} (h : ∀ i, i < V.length → rowB V a p i = true) : contB V a p = true := by
  unfold contB; rw [List.all_eq_true]; intro i hi; exact h i (by simpa using hi)
/-- Proves' answer and error. -/
def prvS (V : List (List Int)) (xs ps : List Int) : Bool × Int := if chk V = 0 then (if isA xs V.length && isL ps V.length 10000000 then (contB V (xs.map Int.toNat) ps, 0) else (false, 8)) else (false, chk V)
theorem chk_cases (V : List (List Int)) : chk V = 0 ∨ (chk V != 0) = true ∧ chk V ≠ 0 := by
  by_cases h : chk V = 0
  · exact .inl h
  · exact .inr ⟨by rw [bne_iff_ne]; exact h, h⟩
theorem isL_bd {ps : List Int} {n m : Int} (hm : 0 ≤ m) (h : isL ps n m = true) : (ps.length : Int) = n ∧ ∀ j, 0 ≤ el ps j ∧ el ps j ≤ m := by
  unfold isL at h
  simp only [Bool.and_eq_true, decide_eq_true_eq, List.all_eq_true] at h
  refine ⟨h.1, fun j => ?_⟩
  unfold el
  rw [List.getD_eq_getElem?_getD]
  rcases Nat.lt_or_ge j ps.length with hj | hj
  · rw [List.getElem?_eq_getElem hj]
    exact h.2 _ (List.getElem_mem hj)
  · rw [List.getElem?_eq_none hj]; exact ⟨by simp, by simpa using hm⟩
theorem perm_lt {a : List Nat} {n : Nat} (h : a.Perm (List.range n)) : a.length = n ∧ ∀ i, i < n → a.getD i 0 < n := by
  have hl : a.length = n := by simpa using h.length_eq
  refine ⟨hl, fun i hi => ?_⟩
  have hm : a.getD i 0 ∈ a := by rw [getD_lt (by omega)]; exact List.getElem_mem (by omega)
  simpa using h.mem_iff.1 hm
end As
set_option maxHeartbeats 2000000 in
theorem asValueOf_any (A : Option Addr) (cv : Nat) (V : List (List Int)) (B : Option Addr) (ca : Nat) (a : List Nat) (w : World) (ok : As.Ok V) (h : IsM w A V) (hB : IsI w B (As.al a)) (hl : a.length = V.length) (ha : ∀ i, i < V.length → a.getD i 0 < V.length) :
    Calls Try.prog 57 #[.slice A V.length cv, .slice B V.length ca] w fun e w' => e = .returned (.int .i64 (As.wr V a)) ∧ Below w.heap.size w w' := by
  have n1 := ok.n1
  have n6 := ok.n6
  obtain ⟨b, off, rfl, hrows⟩ := h (by omega)
  obtain ⟨ab, ao, rfl, hac⟩ := hB.1 (by rw [As.al_len]; omega)
  have HR := Lib.hid hrows
  have HA := Lib.hid (show ∀ i, i < V.length → w.cell? ⟨ab, ao + i, none⟩ = some (.int .i64 ((a.getD i 0 : Nat) : Int)) from fun i hi => by
    have := hac i (by rw [As.al_len]; omega)
    rwa [As.el_al] at this)
  have HL := Lib.hid hl
  have HOKV := Lib.hid ok
  have HLT := Lib.hid ha
  clear h hB hrows hac hl ok ha
  go_enter Try.func57, Try.ntmps57
  go_wp2_with fail
  go_loop [5, 10] (fun s i => ∃ k : Nat, k ≤ V.length ∧ i = .int .i64 k ∧ s = .int .i64 (As.wr (V.take k) (a.take k))) (fun _ i => V.length - (intOf i).toNat)
  case atStart => exact ⟨0, Nat.zero_le _, rfl, by simp [As.wr]⟩
  case round =>
    obtain ⟨k, hk, rfl, rfl⟩ := hrel
    by_cases hlt : k < V.length
    · obtain ⟨R, c, hc, hrl, hI⟩ := HR.out k hlt
      rw [HOKV.out.row k hlt] at hc
      have c1 := HA.out k hlt
      have hj := HLT.out k hlt
      obtain ⟨rb, ro, rfl, hcs⟩ := hI.1 (by rw [HOKV.out.row k hlt]; omega)
      have c2 := hcs (a.getD k 0) (by rw [HOKV.out.row k hlt]; omega)
      have b1 := As.wr_bd HOKV.out.bd a k (by omega) (by rw [HL.out]; omega)
      have b2 := HOKV.out.bd k (a.getD k 0)
      have ET := Lib.hid (As.wr_take V a k (by omega) (by rw [HL.out]; omega))
      change w.cell? ⟨rb, ro + a.getD k 0, none⟩ = some (.int .i64 (As.vl V k (a.getD k 0))) at c2
      clear hcs hI hrl
      generalize a.getD k 0 = j at *
      generalize As.vl V k j = x at *
      generalize As.wr (V.take k) (a.take k) = s at *
      obtain ⟨b11, b12⟩ := b1
      obtain ⟨b21, b22⟩ := b2
      have b13 : s ≤ 6000000 := by omega
      clear b12
      go_wp2_with fail
      go_round
      case rel => exact ⟨k + 1, by omega, by go_num, by rw [ET.out]⟩
      case measure => simp [intOf]; omega
    · obtain rfl : k = V.length := by omega
      go_wp2_with fail
      go_ret
      exact ⟨by rw [As.take_all HL.out]; rfl, Below.refl _ _⟩
set_option maxHeartbeats 2000000 in
theorem asValue_any (A : Option Addr) (cv : Nat) (V : List (List Int)) (B : Option Addr) (ca : Nat) (xs : List Int) (w : World) (hl : V.length ≤ maxLen) (h : IsM w A V) (hx : xs.length ≤ maxLen) (hB : IsI w B xs) :
    Calls Try.prog 53 #[.slice A V.length cv, .slice B xs.length ca] w fun e w' => e = .returned (.tuple #[.int .i64 (As.valS V xs).1, .int .i64 (As.valS V xs).2]) ∧ Below w.heap.size w w' := by
  have CK := asCheck_any A cv V w hl h
  have CA := fun v (hv : Below w.heap.size w v) => isAsg_any B ca xs V.length v hx (hB.keep hv)
  unfold As.valS
  rcases As.chk_cases V with h0 | ⟨h1, h2⟩
  · rw [if_pos h0]
    rw [h0] at CK
    by_cases ha : As.isA xs V.length = true
    · obtain ⟨a, rfl, hp⟩ := As.isA_perm ha
      obtain ⟨p1, p2⟩ := As.perm_lt hp
      rw [if_pos ha, As.toNat_al]
      rw [ha] at CA
      rw [As.al_len, p1] at CA ⊢
      have CV := Lib.hid (fun v (hv : Below w.heap.size w v) => asValueOf_any A cv V B ca a v (As.chk_ok h0) (h.keep hv) (hB.keep hv) p1 p2)
      have CK' := Lib.hid CK
      have CA' := Lib.hid CA
      generalize As.wr V a = z at *
      clear CK CA h0 ha hp p1 p2 hB h hl hx
      go_enter Try.func53, Try.ntmps53
      go_wp2_with fail
      refine CK'.out.mono ?_
      rintro e w1 ⟨rfl, hb1⟩
      go_wp2_with fail
      refine (CA'.out _ hb1).mono ?_
      rintro e w2 ⟨rfl, hb2⟩
      have hbb := keepB hb1 hb2
      clear hb1 hb2
      go_wp2_with fail
      refine (CV.out _ hbb).mono ?_
      rintro e w3 ⟨rfl, hb3⟩
      replace hbb := keepB hbb hb3
      clear hb3
      go_wp2_with fail
      go_ret2
      exact ⟨rfl, hbb⟩
    · have ha : As.isA xs V.length = false := by simpa using ha
      rw [ha] at CA ⊢
      have CK' := Lib.hid CK
      have CA' := Lib.hid CA
      clear CK CA h0 ha hB h hl hx
      go_enter Try.func53, Try.ntmps53
      go_wp2_with fail
      refine CK'.out.mono ?_
      rintro e w1 ⟨rfl, hb1⟩
      go_wp2_with fail
      refine (CA'.out _ hb1).mono ?_
      rintro e w2 ⟨rfl, hb2⟩
      have hbb := keepB hb1 hb2
      clear hb1 hb2
      go_wp2_with fail
      go_ret2
      exact ⟨rfl, hbb⟩
  · rw [if_neg h2]
    generalize As.chk V = c at *
    have CK' := Lib.hid CK
    clear CK CA h2 hB h hl hx
    go_enter Try.func53, Try.ntmps53
    go_wp2_with fail
    refine CK'.out.mono ?_
    rintro e w1 ⟨rfl, hb1⟩
    go_wp2_with fail
    go_ret2
    exact ⟨rfl, hb1⟩
end Go.Proofs.Ytpiolhjiflohgaa
