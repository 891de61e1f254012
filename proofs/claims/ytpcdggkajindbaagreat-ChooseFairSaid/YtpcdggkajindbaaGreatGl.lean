/- The reference's Twin: a cake that is copied. The reference's comparisons of logs and of cakes, and its Twins. -/
import Derived.Test.YtpcdggkajindbaaGreatGj
import Derived.Test.YtpcdggkajindbaaGreatGf
import Derived.Deep.RegionLawGrows
import Derived.Deep.RegionHeld3
import Derived.Test.YtpcdggkajindbaaGreatAskpu
import Derived.Test.YtpcdggkajindbaaGreatGi
namespace Go.Proofs.YtpcdggkajindbaaGreat
open Go.RowKit
/-- A slice of ints in a block from B on (an empty one: anywhere). -/
def IsF (w : World) (B : Nat) (A : Option Addr) (zs : List Int) : Prop :=
  (0 < zs.length → ∃ b off, A = some ⟨b, off, none⟩ ∧ B ≤ b ∧ ∀ i, i < zs.length → w.cell? ⟨b, off + i, none⟩ = some (.int .i64 (Ck.at_ zs i))) ∧ ∀ z ∈ zs, I64 z
theorem IsF.isI {w : World} {B : Nat} {A : Option Addr} {zs : List Int} (h : IsF w B A zs) : IsI w A zs :=
  ⟨fun h0 => by
    obtain ⟨b, off, e, _, hc⟩ := h.1 h0
    exact ⟨b, off, e, hc⟩, h.2⟩
theorem IsF.keep {w v : World} {B : Nat} {A : Option Addr} {zs : List Int} (h : IsF w B A zs) (hb : Below w.heap.size w v) : IsF v B A zs :=
  ⟨fun h0 => by
    obtain ⟨b, off, e, hB, hc⟩ := h.1 h0
    exact ⟨b, off, e, hB, fun i hi => keepC hb (hc i hi)⟩, h.2⟩
theorem IsF.set {w : World} {B : Nat} {A : Option Addr} {zs : List Int} (h : IsF w B A zs) {c o : Nat} (hc : c < B) (u : Value) : IsF (w.setCell ⟨c, o, none⟩ u) B A zs :=
  ⟨fun h0 => by
    obtain ⟨b, off, e, hB, hcl⟩ := h.1 h0
    exact ⟨b, off, e, hB, fun i hi => cell_far (hcl i hi) (by omega) u⟩, h.2⟩
end Go.Proofs.YtpcdggkajindbaaGreat
namespace Go.Proofs.YtpcdggkajindbaaGreat
open Go.RowKit
namespace Ak
end Ak
theorem IsF.mono {V : World} {B B' : Nat} {A : Option Addr} {zs : List Int} (h : IsF V B A zs) (hb : B' ≤ B) : IsF V B' A zs :=
  ⟨fun h0 => by
    obtain ⟨g, off, e, h1, hc⟩ := h.1 h0
    exact ⟨g, off, e, Nat.le_trans hb h1, hc⟩, h.2⟩
end Go.Proofs.YtpcdggkajindbaaGreat

