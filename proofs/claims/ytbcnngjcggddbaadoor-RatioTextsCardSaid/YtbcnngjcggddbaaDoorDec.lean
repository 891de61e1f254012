/- Contract of the reference's Decimal. -/
import Derived.Test.YtbcnngjcggddbaaDoorTextw
import Derived.LoopTactic
import Derived.Lib.ItoaLen
namespace Go.Proofs.YtbcnngjcggddbaaDoor
open Go.RowKit

theorem str_cat (c : UInt8) (l : List UInt8) : ((⟨#[c]⟩ : ByteArray) ++ ⟨l.toArray⟩) = ⟨(c :: l).toArray⟩ := by
  apply ByteArray.ext
  rw [ByteArray.data_append]
  simp

set_option maxHeartbeats 4000000 in
set_option maxRecDepth 100000 in
theorem Decimal_any (n : Nat) (hn : n ≤ 1000000000000000000) (w : World) :
    Calls Tryd.prog 13 #[.int .i64 n] w fun e w' => e = .returned (.string ⟨(Lib.decDigits n).toArray⟩) ∧ Below w.heap.size w w' := by
  go_enter Tryd.func13, Tryd.ntmps13
  go_wp2_with fail
  go_loopw [0, 3] (fun x y v => ∃ (u : Nat) (l : List UInt8), x = .int .i64 u ∧ y = .string ⟨l.toArray⟩ ∧ u ≤ n ∧ Lib.decDigits u ++ l = Lib.decDigits n ∧ Below w.heap.size w v) (fun x _ _ => (intOf x).toNat)
  case atStart => exact ⟨n, [], rfl, rfl, Nat.le_refl _, by simp, Below.refl _ _⟩
  case round =>
    obtain ⟨u, l, rfl, rfl, hu, hd, hbb⟩ := hrel
    have HD := Lib.hid hd
    clear hd
    have h0 : (0 : Int) ≤ (u : Int) % 10 := by omega
    have h1 : (u : Int) % 10 ≤ 9 := by omega
    have hb8 : ((UInt8.ofNat (48 + u % 10)).toNat : Int) = 48 + (u : Int) % 10 := by
      rw [UInt8.toNat_ofNat']
      omega
    have hcv : Sem.run Tryd.prog (convert 54 9 (.slice (some ⟨wr.heap.size, 0, none⟩) 1 1)) (wr.alloc (.cells #[.int .u8 (48 + (u : Int) % 10)] 5)) = .ok (.string ⟨[UInt8.ofNat (48 + u % 10)].toArray⟩) (wr.alloc (.cells #[.int .u8 (48 + (u : Int) % 10)] 5)) :=
      run_convert_bytes_back (P := Tryd.prog) (wr.alloc (.cells #[.int .u8 (48 + (u : Int) % 10)] 5)) 54 9 5 ⟨wr.heap.size, 0, none⟩ 1 [UInt8.ofNat (48 + u % 10)] Tryd.underlying54 Tryd.underlying5 Tryd.underlying9 (fun j hj => by
        obtain rfl : j = 0 := by simpa using hj
        rw [Addr.add_lit, World.cell?_alloc_mark]
        have h256 : ((48 : Int) + (u : Int) % 10) % 256 = 48 + (u : Int) % 10 := by omega
        simp [h256])
    have hlen : ¬ 9223372036854775807 < 1 + l.length := by
      have h := congrArg List.length HD.out
      rw [List.length_append, Lib.decDigits_length, Lib.decDigits_length] at h
      have := Lib.nDigits_le20 n (by omega)
      omega
    by_cases hz : u / 10 = 0
    · have hz2 : ((u : Int) / 10 == 0) = true := by
        rw [beq_iff_eq]
        omega
      have hz3 : ((u : Int) / 10 != 0) = false := by
        rw [bne, hz2]
        rfl
      go_wp2_with fail
      go_ret
      have h := HD.out
      rw [Lib.decDigits, dif_pos (by omega : u < 10)] at h
      refine ⟨?_, ?_⟩
      · rw [← h, show UInt8.ofNat (48 + u) = 48 + UInt8.ofNat (u % 10) by rw [Nat.mod_eq_of_lt (by omega : u < 10)]; simp]
        simp [str_cat]
      · exact below_al hbb _
    · have hz2 : ((u : Int) / 10 == 0) = false := by
        rw [beq_eq_false_iff_ne]
        omega
      have hz3 : ((u : Int) / 10 != 0) = true := by
        rw [bne, hz2]
        rfl
      go_wp2_with fail
      refine ⟨⟨u / 10, UInt8.ofNat (48 + u % 10) :: l, rfl, ?_, by omega, ?_, ?_⟩, ?_⟩
      · simp [str_cat]
      · rw [← HD.out, Lib.decDigits.eq_def u, dif_neg (by omega)]
        simp
      · exact below_al hbb _
      · simp only [intOf]
        omega
end Go.Proofs.YtbcnngjcggddbaaDoor
