/- The reference of layer 13: Worth, Priced, Content, Great, Value, Proves. -/
import Derived.Test.YtpiolhjiflohgaaAsr
namespace Go.Proofs.Ytpiolhjiflohgaa
open Go.RowKit
set_option maxRecDepth 100000 in
set_option maxHeartbeats 2000000 in
theorem rWorth_any (A : Option Addr) (cv : Nat) (V : List (List Int)) (B : Option Addr) (ca : Nat) (a : List Nat) (w : World) (n1 : 1 ≤ V.length) (n6 : V.length ≤ 6) (hrl : ∀ i, i < V.length → (V.getD i []).length = V.length) (hbd : ∀ i j, 0 ≤ As.vl V i j ∧ As.vl V i j ≤ 1000000) (h : IsM w A V) (hB : IsI w B (As.al a)) (hl : a.length = V.length) (ha : ∀ i, i < V.length → a.getD i 0 < V.length) :
    Calls Try.prog 34 #[.slice A V.length cv, .slice B V.length ca] w fun e w' => e = .returned (.int .i64 (As.wr V a)) ∧ Below w.heap.size w w' := by
  obtain ⟨b, off, rfl, hrows⟩ := h (by omega)
  obtain ⟨ab, ao, rfl, hac⟩ := hB.1 (by rw [As.al_len]; omega)
  have HR := Lib.hid hrows
  have HA := Lib.hid (show ∀ i, i < V.length → w.cell? ⟨ab, ao + i, none⟩ = some (.int .i64 ((a.getD i 0 : Nat) : Int)) from fun i hi => by
    have := hac i (by rw [As.al_len]; omega)
    rwa [As.el_al] at this)
  have HL := Lib.hid hl
  have HRL := Lib.hid hrl
  have HBD := Lib.hid hbd
  have HLT := Lib.hid ha
  clear h hB hrows hac hl hrl hbd ha
  go_enter Try.func34, Try.ntmps34
  go_wp2_with fail
  go_loopw [5, 6] (fun s i W => ∃ k : Nat, k ≤ V.length ∧ i = .int .i64 k ∧ s = .int .i64 (As.wr (V.take k) (a.take k)) ∧ Below w.heap.size w W) (fun _ i _ => V.length - (intOf i).toNat)
  case atStart => exact ⟨0, Nat.zero_le _, rfl, by simp [As.wr], Below.refl _ _⟩
  case round =>
    obtain ⟨k, hk, rfl, rfl, hbb⟩ := hrel
    by_cases hlt : k < V.length
    · obtain ⟨R, c, hc, _, hI⟩ := HR.out k hlt
      rw [HRL.out k hlt] at hc
      replace hc := keepC hbb hc
      have c1 := keepC hbb (HA.out k hlt)
      have hj := HLT.out k hlt
      obtain ⟨rb, ro, rfl, hcs⟩ := hI.1 (by rw [HRL.out k hlt]; omega)
      have c2 := hcs (a.getD k 0) (by rw [HRL.out k hlt]; omega)
      have b1 := As.wr_bd HBD.out a k (by omega) (by rw [HL.out]; omega)
      have b2 := HBD.out k (a.getD k 0)
      have ET := Lib.hid (As.wr_take V a k (by omega) (by rw [HL.out]; omega))
      change w.cell? ⟨rb, ro + a.getD k 0, none⟩ = some (.int .i64 (As.vl V k (a.getD k 0))) at c2
      replace c2 := keepC hbb c2
      clear hcs hI
      generalize a.getD k 0 = j at *
      generalize As.vl V k j = x at *
      generalize As.wr (V.take k) (a.take k) = s at *
      obtain ⟨b11, b12⟩ := b1
      obtain ⟨b21, b22⟩ := b2
      have b13 : s ≤ 6000000 := by omega
      have i1 : (k : Int) < (V.length : Int) := by omega
      have i3 : (j : Int) < (V.length : Int) := by omega
      have a1 : IntKind.i64.wrap (s + x) = s + x := IntWalk.i64_in _ (by omega)
      clear b12
      go_wp2_with fail
      go_quiet (fail)
      go_wp2_with fail
      clear a1
      go_roundw
      case rel => exact ⟨k + 1, by omega, by go_num, by rw [ET.out], below_drewN hbb _⟩
      case measure => simp [intOf]; omega
    · obtain rfl : k = V.length := by omega
      go_wp2_with fail
      go_ret
      exact ⟨by rw [As.take_all HL.out, List.take_length]; rfl, hbb⟩
end Go.Proofs.Ytpiolhjiflohgaa
