/- Package cake's stretches, and Value where it adds up. -/
import Derived.Test.YtpcdggkajindbaaGreatIter
namespace Go.Proofs.YtpcdggkajindbaaGreat
open Go.RowKit Go.Shelf
attribute [local go_sem] Oper.semAt_some
set_option maxHeartbeats 1000000 in
set_option maxRecDepth 100000 in
theorem stretches_any (len : Int) (K : Option Addr) (kn ck : Nat) (Z : Option Addr) (zn cz : Nat) (n1 d1 n2 d2 : Int) (w : World) :
    Calls Tryz.prog 127 #[.agg #[.int .i64 len, .slice K kn ck, .slice Z zn cz], .agg #[.int .i64 n1, .int .i64 d1], .agg #[.int .i64 n2, .int .i64 d2]] w fun e w' => e = .returned (.func (.func 147) #[] #[.pointer (some ⟨w.heap.size, 0, none⟩), .pointer (some ⟨w.heap.size + 1, 0, none⟩), .pointer (some ⟨w.heap.size + 1 + 1, 0, none⟩)]) ∧
      (BK w' w.heap.size [.int .i64 len, .slice K kn ck, .slice Z zn cz] ∧ BK w' (w.heap.size + 1) [.int .i64 n1, .int .i64 d1] ∧ BK w' (w.heap.size + 1 + 1) [.int .i64 n2, .int .i64 d2]) ∧ Below w.heap.size w w' := by
  go_enter Tryz.func127, Tryz.ntmps127
  go_wp2_with fail
  go_ret
  have b1 := BK.new w [.int .i64 len, .slice K kn ck, .slice Z zn cz] 48
  have b2 := BK.new (w.alloc (.cells #[.int .i64 len, .slice K kn ck, .slice Z zn cz] 48)) [.int .i64 n1, .int .i64 d1] 44
  have b3 := BK.new ((w.alloc (.cells #[.int .i64 len, .slice K kn ck, .slice Z zn cz] 48)).alloc (.cells #[.int .i64 n1, .int .i64 d1] 44)) [.int .i64 n2, .int .i64 d2] 44
  simp only [World.size_alloc] at b1 b2 b3
  exact ⟨rfl, ⟨(b1.al _).al _, b2.al _, b3⟩, below_al (below_al (below_al (Below.refl _ _) _) _) _⟩

/-- A cake's boxes, as its iterator reads them. -/
structure Boxes (X : Ck.Sx) (w : World) (n₀ : Nat) (Ws : List Nat) (Bc Ba Bb bk ok m ck bz oz cz : Nat) (len : Int) : Prop where
  b1 : Bc < n₀ ∧ Bc ∉ Ws
  b2 : Ba < n₀ ∧ Ba ∉ Ws
  b3 : Bb < n₀ ∧ Bb ∉ Ws
  b4 : bk < n₀ ∧ bk ∉ Ws
  b5 : bz < n₀ ∧ bz ∉ Ws
  b6 : n₀ ≤ w.heap.size
  c0 : w.cell? ⟨Bc, 0, none⟩ = some (.int .i64 len)
  c1 : w.cell? ⟨Bc, 1, none⟩ = some (.slice (some ⟨bk, ok, none⟩) (m + 1) ck)
  c2 : w.cell? ⟨Bc, 2, none⟩ = some (.slice (some ⟨bz, oz, none⟩) m cz)
  a0 : w.cell? ⟨Ba, 0, none⟩ = some (.int .i64 X.n1)
  a1 : w.cell? ⟨Ba, 1, none⟩ = some (.int .i64 X.d1)
  e0 : w.cell? ⟨Bb, 0, none⟩ = some (.int .i64 X.n2)
  e1 : w.cell? ⟨Bb, 1, none⟩ = some (.int .i64 X.d2)
  hk : ∀ i, i < m + 1 → w.cell? ⟨bk, ok + i, none⟩ = some (.int .i64 (Ck.at_ X.c i))
  hz : ∀ i, i < m → w.cell? ⟨bz, oz + i, none⟩ = some (.int .i64 (Ck.at_ X.d i))
theorem Boxes.keep {X : Ck.Sx} {w v : World} {n₀ : Nat} {Ws : List Nat} {Bc Ba Bb bk ok m ck bz oz cz : Nat} {len : Int} (h : Boxes X w n₀ Ws Bc Ba Bb bk ok m ck bz oz cz len) (hb : Below w.heap.size w v) : Boxes X v n₀ Ws Bc Ba Bb bk ok m ck bz oz cz len :=
  ⟨h.b1, h.b2, h.b3, h.b4, h.b5, Nat.le_trans h.b6 hb.size, keepC hb h.c0, keepC hb h.c1, keepC hb h.c2, keepC hb h.a0, keepC hb h.a1, keepC hb h.e0, keepC hb h.e1, fun i hi => keepC hb (h.hk i hi), fun i hi => keepC hb (h.hz i hi)⟩
theorem iter_stops (X : Ck.Sx) (n Bc Ba Bb bk ok m ck bz oz cz n₀ : Nat) (Ws : List Nat) (len : Int) (w : World) (hn : 1 ≤ n) (hm : m ≤ 39) (oA : Rp.Ok X.n1 X.d1) (oB : Rp.Ok X.n2 X.d2)
    (hR : ∀ k, k ≤ m → 0 ≤ Ck.at_ X.c k ∧ Ck.at_ X.c k ≤ 1000) (hD : ∀ k, k < m → 0 ≤ Ck.at_ X.d k ∧ Ck.at_ X.d k ≤ 12) (hB : Boxes X w n₀ Ws Bc Ba Bb bk ok m ck bz oz cz len) :
    SeqStopsK Fence.wide n Tryz.prog 147 #[.pointer (some ⟨Bc, 0, none⟩), .pointer (some ⟨Ba, 0, none⟩), .pointer (some ⟨Bb, 0, none⟩)] (fun x : X.It => #[X.sv x.1, .int .i64 (X.wt x.1).2.2]) (KB n₀ Ws) (fun ys => ys = X.idx m) (fun pre => ∃ k, k ≤ m ∧ pre = X.idx k) m w := fun l J Jx W hW hJ _ hY h0 => by
  have h := hB.keep hW
  exact iter_in X n l Bc Ba Bb bk ok m ck bz oz cz n₀ Ws len X.n1 X.d1 X.n2 X.d2 J Jx W hn hm rfl rfl rfl rfl oA oB hR hD h.b1 h.b2 h.b3 h.b4 h.b5 h.b6 h.c0 h.c1 h.c2 h.a0 h.a1 h.e0 h.e1 h.hk h.hz hJ h0 hY
end Go.Proofs.YtpcdggkajindbaaGreat

