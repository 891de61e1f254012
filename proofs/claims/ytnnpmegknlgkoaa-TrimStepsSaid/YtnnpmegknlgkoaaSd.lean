/- The chapter's examples of layer 4 hold. What the examples of layer 4 answer. -/
import Derived.Test.YtnnpmegknlgkoaaGk
import Derived.Test.YtnnpmegknlgkoaaGl
namespace Go.Proofs.Ytnnpmegknlgkoaa
open Go.RowKit
theorem isG_bk {v : World} {B p : Nat} {row : Option Nat} {zs : List Int} (h : BK v p (zs.map (Value.int .i64))) (hz : ∀ z ∈ zs, I64 z) (hB : B ≤ p) (hr : row ≠ some p) : IsG v B row (some ⟨p, 0, none⟩) zs :=
  ⟨fun _ => ⟨p, 0, rfl, hB, hr, fun i hi => by
    rw [Nat.zero_add]
    exact h.c i (by rw [List.getElem?_map, List.getElem?_eq_getElem hi, Ck.at_lt hi]; rfl)⟩, hz⟩
/-- Blocks from B on, below the end of Wd, lie as they lay there. -/
structure Mid (B : Nat) (Wd W : World) : Prop where
  size : Wd.heap.size ≤ W.heap.size
  block : ∀ k, B ≤ k → k < Wd.heap.size → W.heap[k]? = Wd.heap[k]?
section
variable {Wd W W' : World} {B : Nat}
theorem Mid.refl (B : Nat) (Wd : World) : Mid B Wd Wd := ⟨Nat.le_refl _, fun _ _ _ => rfl⟩
theorem Mid.call (h : Mid B Wd W) (hb : Below W.heap.size W W') : Mid B Wd W' := ⟨Nat.le_trans h.size hb.size, fun k h1 h2 => (hb.block k (Nat.lt_of_lt_of_le h2 h.size)).trans (h.block k h1 h2)⟩
theorem Mid.al (h : Mid B Wd W) (o : Obj) : Mid B Wd (W.alloc o) := h.call (below_al (Below.refl _ _) o)
theorem Mid.set (h : Mid B Wd W) {p o : Nat} (hp : p < B ∨ Wd.heap.size ≤ p) (x : Value) : Mid B Wd (W.setCell ⟨p, o, none⟩ x) :=
  ⟨by rw [World.size_setCell]; exact h.size, fun k h1 h2 => (Below.heap_setCell W ⟨p, o, none⟩ x k (fun e => by
    have e : k = p := e
    omega)).trans (h.block k h1 h2)⟩
theorem row_mid {sz n : Nat} {e : TypeId} {v : Value} {cs : List Value} (h : Wd.ownsRow B e sz v n cs) (hm : Mid B Wd W) : W.ownsRow B e sz v n cs := by
  refine ⟨h.1, ?_⟩
  rcases h.2 with h2 | ⟨g, cap, cur, h1, h2, h3, h4, h5, h6⟩
  · exact .inl h2
  · refine .inr ⟨g, cap, cur, h1, h2, ?_, h4, h5, h6⟩
    rw [hm.block g h2 (Array.getElem?_eq_some_iff.1 h3).1]
    exact h3
theorem IsG.mid {row : Option Nat} {A : Option Addr} {zs : List Int} (h : IsG Wd B row A zs) (hm : Mid B Wd W) : IsG W B row A zs :=
  ⟨fun h0 => by
    obtain ⟨g, off, e, h1, h2, hc⟩ := h.1 h0
    exact ⟨g, off, e, h1, h2, fun i hi => (World.cell?_of_block (hm.block g h1 (lt_of_cell (hc i hi)))).trans (hc i hi)⟩, h.2⟩
theorem FD.mid {A : Option Addr} {ca : Nat} {l : List CkR} {Q : Option Addr} {cq : Nat} {qs : List Qr} (h : FD Wd B A ca l Q cq qs) (hm : Mid B Wd W) : FD W B A ca l Q cq qs :=
  ⟨row_mid h.row hm, fun c hc => ⟨(h.all c hc).1, (h.all c hc).2.1, (h.all c hc).2.2.1.mid hm, (h.all c hc).2.2.2.mid hm⟩, row_mid h.log hm, h.q64, h.lc, h.lq⟩
end
theorem two_lay (w : World) : CRow w w.heap.size 33 (.slice (some ⟨w.heap.size + 4, 0, none⟩) 2 2) [⟨2, some ⟨w.heap.size, 0, none⟩, [0, 2], 2, some ⟨w.heap.size + 1, 0, none⟩, [1], 1⟩, ⟨2, some ⟨w.heap.size + 2, 0, none⟩, [0, 1, 2], 3, some ⟨w.heap.size + 3, 0, none⟩, [3, 1], 2⟩] (((((w.alloc (.cells #[.int .i64 0, .int .i64 2] 3)).alloc (.cells #[.int .i64 1] 3)).alloc (.cells #[.int .i64 0, .int .i64 1, .int .i64 2] 3)).alloc (.cells #[.int .i64 3, .int .i64 1] 3)).alloc (.cells #[.int .i64 2, .slice (some ⟨w.heap.size, 0, none⟩) 2 2, .slice (some ⟨w.heap.size + 1, 0, none⟩) 1 1, .int .i64 2, .slice (some ⟨w.heap.size + 2, 0, none⟩) 3 3, .slice (some ⟨w.heap.size + 3, 0, none⟩) 2 2] 33)) := by
  have b0 : BK (((((w.alloc (.cells #[.int .i64 0, .int .i64 2] 3)).alloc (.cells #[.int .i64 1] 3)).alloc (.cells #[.int .i64 0, .int .i64 1, .int .i64 2] 3)).alloc (.cells #[.int .i64 3, .int .i64 1] 3)).alloc (.cells #[.int .i64 2, .slice (some ⟨w.heap.size, 0, none⟩) 2 2, .slice (some ⟨w.heap.size + 1, 0, none⟩) 1 1, .int .i64 2, .slice (some ⟨w.heap.size + 2, 0, none⟩) 3 3, .slice (some ⟨w.heap.size + 3, 0, none⟩) 2 2] 33)) (w.heap.size) [.int .i64 0, .int .i64 2] := by have b := (((((BK.new w [.int .i64 0, .int .i64 2] 3).al (.cells #[.int .i64 1] 3)).al (.cells #[.int .i64 0, .int .i64 1, .int .i64 2] 3)).al (.cells #[.int .i64 3, .int .i64 1] 3)).al (.cells #[.int .i64 2, .slice (some ⟨w.heap.size, 0, none⟩) 2 2, .slice (some ⟨w.heap.size + 1, 0, none⟩) 1 1, .int .i64 2, .slice (some ⟨w.heap.size + 2, 0, none⟩) 3 3, .slice (some ⟨w.heap.size + 3, 0, none⟩) 2 2] 33)); simpa only [World.size_alloc] using b
  have b1 : BK (((((w.alloc (.cells #[.int .i64 0, .int .i64 2] 3)).alloc (.cells #[.int .i64 1] 3)).alloc (.cells #[.int .i64 0, .int .i64 1, .int .i64 2] 3)).alloc (.cells #[.int .i64 3, .int .i64 1] 3)).alloc (.cells #[.int .i64 2, .slice (some ⟨w.heap.size, 0, none⟩) 2 2, .slice (some ⟨w.heap.size + 1, 0, none⟩) 1 1, .int .i64 2, .slice (some ⟨w.heap.size + 2, 0, none⟩) 3 3, .slice (some ⟨w.heap.size + 3, 0, none⟩) 2 2] 33)) (w.heap.size + 1) [.int .i64 1] := by have b := ((((BK.new (w.alloc (.cells #[.int .i64 0, .int .i64 2] 3)) [.int .i64 1] 3).al (.cells #[.int .i64 0, .int .i64 1, .int .i64 2] 3)).al (.cells #[.int .i64 3, .int .i64 1] 3)).al (.cells #[.int .i64 2, .slice (some ⟨w.heap.size, 0, none⟩) 2 2, .slice (some ⟨w.heap.size + 1, 0, none⟩) 1 1, .int .i64 2, .slice (some ⟨w.heap.size + 2, 0, none⟩) 3 3, .slice (some ⟨w.heap.size + 3, 0, none⟩) 2 2] 33)); simpa only [World.size_alloc] using b
  have b2 : BK (((((w.alloc (.cells #[.int .i64 0, .int .i64 2] 3)).alloc (.cells #[.int .i64 1] 3)).alloc (.cells #[.int .i64 0, .int .i64 1, .int .i64 2] 3)).alloc (.cells #[.int .i64 3, .int .i64 1] 3)).alloc (.cells #[.int .i64 2, .slice (some ⟨w.heap.size, 0, none⟩) 2 2, .slice (some ⟨w.heap.size + 1, 0, none⟩) 1 1, .int .i64 2, .slice (some ⟨w.heap.size + 2, 0, none⟩) 3 3, .slice (some ⟨w.heap.size + 3, 0, none⟩) 2 2] 33)) (w.heap.size + 2) [.int .i64 0, .int .i64 1, .int .i64 2] := by have b := (((BK.new ((w.alloc (.cells #[.int .i64 0, .int .i64 2] 3)).alloc (.cells #[.int .i64 1] 3)) [.int .i64 0, .int .i64 1, .int .i64 2] 3).al (.cells #[.int .i64 3, .int .i64 1] 3)).al (.cells #[.int .i64 2, .slice (some ⟨w.heap.size, 0, none⟩) 2 2, .slice (some ⟨w.heap.size + 1, 0, none⟩) 1 1, .int .i64 2, .slice (some ⟨w.heap.size + 2, 0, none⟩) 3 3, .slice (some ⟨w.heap.size + 3, 0, none⟩) 2 2] 33)); simpa only [World.size_alloc] using b
  have b3 : BK (((((w.alloc (.cells #[.int .i64 0, .int .i64 2] 3)).alloc (.cells #[.int .i64 1] 3)).alloc (.cells #[.int .i64 0, .int .i64 1, .int .i64 2] 3)).alloc (.cells #[.int .i64 3, .int .i64 1] 3)).alloc (.cells #[.int .i64 2, .slice (some ⟨w.heap.size, 0, none⟩) 2 2, .slice (some ⟨w.heap.size + 1, 0, none⟩) 1 1, .int .i64 2, .slice (some ⟨w.heap.size + 2, 0, none⟩) 3 3, .slice (some ⟨w.heap.size + 3, 0, none⟩) 2 2] 33)) (w.heap.size + 3) [.int .i64 3, .int .i64 1] := by have b := ((BK.new (((w.alloc (.cells #[.int .i64 0, .int .i64 2] 3)).alloc (.cells #[.int .i64 1] 3)).alloc (.cells #[.int .i64 0, .int .i64 1, .int .i64 2] 3)) [.int .i64 3, .int .i64 1] 3).al (.cells #[.int .i64 2, .slice (some ⟨w.heap.size, 0, none⟩) 2 2, .slice (some ⟨w.heap.size + 1, 0, none⟩) 1 1, .int .i64 2, .slice (some ⟨w.heap.size + 2, 0, none⟩) 3 3, .slice (some ⟨w.heap.size + 3, 0, none⟩) 2 2] 33)); simpa only [World.size_alloc] using b
  refine ⟨below_al (below_al (below_al (below_al (below_al (Below.refl _ _) _) _) _) _) _, Nat.le_refl _, by simp only [World.size_alloc]; omega, ?_, ?_⟩
  · have h := World.ownsRow_lit (base := w.heap.size) (e := 33) (size := 3) ((((w.alloc (.cells #[.int .i64 0, .int .i64 2] 3)).alloc (.cells #[.int .i64 1] 3)).alloc (.cells #[.int .i64 0, .int .i64 1, .int .i64 2] 3)).alloc (.cells #[.int .i64 3, .int .i64 1] 3)) #[.int .i64 2, .slice (some ⟨w.heap.size, 0, none⟩) 2 2, .slice (some ⟨w.heap.size + 1, 0, none⟩) 1 1, .int .i64 2, .slice (some ⟨w.heap.size + 2, 0, none⟩) 3 3, .slice (some ⟨w.heap.size + 3, 0, none⟩) 2 2] 2 (by simp only [World.size_alloc]; omega) (by decide) rfl
    simp only [World.size_alloc] at h
    exact h
  · intro c hc
    simp only [List.mem_cons, List.not_mem_nil, or_false] at hc
    rcases hc with rfl | rfl
    · exact ⟨(show I64 2 from ⟨by decide, by decide⟩), ⟨by simp [maxLen], by simp [maxLen]⟩, isG_bk (zs := [0, 2]) b0 (by intro z hz; simp at hz; rcases hz with rfl | rfl <;> exact ⟨by decide, by decide⟩) (by omega) (by simp [Value.ownBlock]), isG_bk (zs := [1]) b1 (by intro z hz; simp at hz; subst hz; exact ⟨by decide, by decide⟩) (by omega) (by simp [Value.ownBlock])⟩
    · exact ⟨(show I64 2 from ⟨by decide, by decide⟩), ⟨by simp [maxLen], by simp [maxLen]⟩, isG_bk (zs := [0, 1, 2]) b2 (by intro z hz; simp at hz; rcases hz with rfl | rfl | rfl <;> exact ⟨by decide, by decide⟩) (by omega) (by simp [Value.ownBlock]), isG_bk (zs := [3, 1]) b3 (by intro z hz; simp at hz; rcases hz with rfl | rfl <;> exact ⟨by decide, by decide⟩) (by omega) (by simp [Value.ownBlock])⟩
/-- What two gives. -/
def TwoQ (w : World) (e : Ending) (w' : World) : Prop := ∃ (P : Nat) (l : List CkR), e = .returned (.slice (some ⟨P, 0, none⟩) 2 2) ∧ l.length = 2 ∧ l.map Ak.dat = [(2, [0, 2], [1]), (2, [0, 1, 2], [3, 1])] ∧ CRow w w.heap.size 33 (.slice (some ⟨P, 0, none⟩) 2 2) l w'
set_option linter.unusedSimpArgs false in
set_option maxHeartbeats 8000000 in
set_option maxRecDepth 100000 in
theorem two4_any (w : World) : Calls Try.prog 20 #[] w (TwoQ w) := by
  unfold TwoQ
  go_enter Try.func20, Try.ntmps20
  go_wp2_with fail
  go_ret
  first
    | exact ⟨_, _, rfl, rfl, rfl, two_lay w⟩
    | exact ⟨_, rfl, _, rfl, rfl, two_lay w⟩
set_option linter.unusedSimpArgs false in
set_option maxHeartbeats 8000000 in
set_option maxRecDepth 100000 in
theorem of4_any (n : Int) (w : World) : Calls Try.prog 22 #[.int .i64 n] w fun e w' => e = .returned (.agg #[.int .i64 n, .int .i64 1]) ∧ Below w.heap.size w w' := by
  go_enter Try.func22, Try.ntmps22
  go_upto_region 1 with fail
  refine at_worldQ (fun v => Below w.heap.size w v ∧ BK v w.heap.size [.int .i64 0, .int .i64 0]) ⟨below_al (Below.refl _ _) _, BK.new w [.int .i64 0, .int .i64 0] _⟩ (fun V hS => ?_)
  obtain ⟨hbb, B⟩ := hS
  have r0 := B.c 0 rfl
  have r1 := B.c 1 rfl
  have f0 := B.f 0 rfl
  have f1 := B.f 1 rfl
  go_wp2_with fail
  exact bodyPost_ret (v := .agg #[.int .i64 n, .int .i64 1]) (by simp [results, Try.results22, go_sem, r0, r1]) rfl ⟨rfl, below_set (below_set hbb (Nat.le_refl _) _) (Nat.le_refl _) _⟩
end Go.Proofs.Ytnnpmegknlgkoaa
namespace Go.Proofs.Ytnnpmegknlgkoaa
open Go.RowKit
theorem al4_open (A : Option Addr) (ca : Nat) (l : List CkR) (v : World) (hl : l.length = 2) (hd : l.map Ak.dat = [(2, [0, 2], [1]), (2, [0, 1, 2], [3, 1])]) (h : IsCs v A l) :
    Calls Try.prog 25 #[.slice A 2 ca] v fun e w' => Below v.heap.size v w' ∧ ∃ A' ca' l' Q' cq', e = .returned (.tuple #[.agg #[.slice A' 2 ca', .slice Q' 0 cq'], .int .i64 0]) ∧ l'.length = 2 ∧ l'.map Ak.dat = [(2, [0, 2], [1]), (2, [0, 1, 2], [3, 1])] ∧ FD w' v.heap.size A' ca' l' Q' cq' [] := by
  have := askOpen_any A ca l v h
  rw [hl, hd] at this
  refine this.mono ?_
  rintro e w' ⟨hb, ⟨hn, _⟩ | ⟨_, A', ca', l', Q', cq', he, hdat, hfd⟩⟩
  · exact absurd (show Ak.chkS [(2, [0, 2], [1]), (2, [0, 1, 2], [3, 1])] 0 = 0 by decide +kernel) hn
  · have hl' : l'.length = 2 := by have := congrArg List.length hdat; simpa using this
    rw [hl'] at he
    exact ⟨hb, A', ca', l', Q', cq', he, hl', hdat, hfd⟩
theorem al4_tot0 (A : Option Addr) (ca : Nat) (l : List CkR) (Q : Option Addr) (cq : Nat) (v : World) (hl : l.length = 2) (hd : l.map Ak.dat = [(2, [0, 2], [1]), (2, [0, 1, 2], [3, 1])]) (h : IsCs v A l) :
    Calls Try.prog 24 #[.agg #[.slice A 2 ca, .slice Q 0 cq], .int .i64 0] v fun e w' => e = .returned (.tuple #[.int .i64 2, .int .i64 0]) ∧ Below v.heap.size v w' := by
  have := askTotal_good A ca l Q 0 cq 0 v h (by simp) (by rw [hd]; decide +kernel) (by omega)
  have e := Ak.dAt_map l (k := 0) (by omega)
  rw [hd] at e
  have e1 : (Ak.cat l 0).len = (Ak.dAt [(2, [0, 2], [1]), (2, [0, 1, 2], [3, 1])] 0).1 := (congrArg (fun x => x.1) e).symm
  have e2 : (Ak.cat l 0).cuts = (Ak.dAt [(2, [0, 2], [1]), (2, [0, 1, 2], [3, 1])] 0).2.1 := (congrArg (fun x => x.2.1) e).symm
  have e3 : (Ak.cat l 0).dens = (Ak.dAt [(2, [0, 2], [1]), (2, [0, 1, 2], [3, 1])] 0).2.2 := (congrArg (fun x => x.2.2) e).symm
  rw [hl, e1, e2, e3, show Ck.totS (Ak.dAt [(2, [0, 2], [1]), (2, [0, 1, 2], [3, 1])] 0).1 (Ak.dAt [(2, [0, 2], [1]), (2, [0, 1, 2], [3, 1])] 0).2.1 (Ak.dAt [(2, [0, 2], [1]), (2, [0, 1, 2], [3, 1])] 0).2.2 = (2, 0) by decide +kernel] at this
  exact this
theorem al4_tot1 (A : Option Addr) (ca : Nat) (l : List CkR) (Q : Option Addr) (cq : Nat) (v : World) (hl : l.length = 2) (hd : l.map Ak.dat = [(2, [0, 2], [1]), (2, [0, 1, 2], [3, 1])]) (h : IsCs v A l) :
    Calls Try.prog 24 #[.agg #[.slice A 2 ca, .slice Q 0 cq], .int .i64 1] v fun e w' => e = .returned (.tuple #[.int .i64 4, .int .i64 0]) ∧ Below v.heap.size v w' := by
  have := askTotal_good A ca l Q 0 cq 1 v h (by simp) (by rw [hd]; decide +kernel) (by omega)
  have e := Ak.dAt_map l (k := 1) (by omega)
  rw [hd] at e
  have e1 : (Ak.cat l 1).len = (Ak.dAt [(2, [0, 2], [1]), (2, [0, 1, 2], [3, 1])] 1).1 := (congrArg (fun x => x.1) e).symm
  have e2 : (Ak.cat l 1).cuts = (Ak.dAt [(2, [0, 2], [1]), (2, [0, 1, 2], [3, 1])] 1).2.1 := (congrArg (fun x => x.2.1) e).symm
  have e3 : (Ak.cat l 1).dens = (Ak.dAt [(2, [0, 2], [1]), (2, [0, 1, 2], [3, 1])] 1).2.2 := (congrArg (fun x => x.2.2) e).symm
  rw [hl, e1, e2, e3, show Ck.totS (Ak.dAt [(2, [0, 2], [1]), (2, [0, 1, 2], [3, 1])] 1).1 (Ak.dAt [(2, [0, 2], [1]), (2, [0, 1, 2], [3, 1])] 1).2.1 (Ak.dAt [(2, [0, 2], [1]), (2, [0, 1, 2], [3, 1])] 1).2.2 = (4, 0) by decide +kernel] at this
  exact this
theorem al4_mark0 (A : Option Addr) (ca : Nat) (l : List CkR) (Q : Option Addr) (cq : Nat) (v : World) (hl : l.length = 2) (hd : l.map Ak.dat = [(2, [0, 2], [1]), (2, [0, 1, 2], [3, 1])]) (h : IsCs v A l) (hq : IsQs v Q []) :
    Calls Try.prog 23 #[.agg #[.slice A 2 ca, .slice Q 0 cq], .int .i64 0, .agg #[.int .i64 0, .int .i64 1], .agg #[.int .i64 1, .int .i64 1]] v fun e w' => Below v.heap.size v w' ∧ ∃ A' ca' l' Q' cq', e = .returned (.tuple #[.agg #[.slice A' 2 ca', .slice Q' 1 cq'], .agg #[.int .i64 1, .int .i64 1], .int .i64 0]) ∧ l'.length = 2 ∧ l'.map Ak.dat = [(2, [0, 2], [1]), (2, [0, 1, 2], [3, 1])] ∧ FD w' v.heap.size A' ca' l' Q' cq' [⟨0, 2, 0, 1, 1, 1, 1, 1⟩] := by
  have := askMark_any A ca l Q [] cq 0 0 1 1 1 v h hq ⟨by decide, by decide⟩ ⟨by decide, by decide⟩ ⟨by decide, by decide⟩ ⟨by decide, by decide⟩ ⟨by decide, by decide⟩
  rw [hl, hd] at this
  refine this.mono ?_
  rintro e w' ⟨hb, ⟨hn, _⟩ | ⟨_, A', ca', l', Q', cq', he, hdat, hfd⟩⟩
  · exact absurd (show Ak.putE [(2, [0, 2], [1]), (2, [0, 1, 2], [3, 1])] ([] : List Qr).length ⟨0, 2, 0, 1, 1, 1, 0, 0⟩ = 0 by decide +kernel) hn
  · have ht : Ak.told [(2, [0, 2], [1]), (2, [0, 1, 2], [3, 1])] ⟨0, 2, 0, 1, 1, 1, 0, 0⟩ = ⟨0, 2, 0, 1, 1, 1, 1, 1⟩ := by decide +kernel
    have hl' : l'.length = 2 := by have := congrArg List.length hdat; simpa using this
    rw [ht] at he hfd
    rw [hl'] at he
    exact ⟨hb, A', ca', l', Q', cq', he, hl', hdat, hfd⟩
theorem al4_mark1 (A : Option Addr) (ca : Nat) (l : List CkR) (Q : Option Addr) (cq : Nat) (v : World) (hl : l.length = 2) (hd : l.map Ak.dat = [(2, [0, 2], [1]), (2, [0, 1, 2], [3, 1])]) (h : IsCs v A l) (hq : IsQs v Q [⟨0, 2, 0, 1, 1, 1, 1, 1⟩]) :
    Calls Try.prog 23 #[.agg #[.slice A 2 ca, .slice Q 1 cq], .int .i64 1, .agg #[.int .i64 0, .int .i64 1], .agg #[.int .i64 1, .int .i64 1]] v fun e w' => Below v.heap.size v w' ∧ ∃ A' ca' l' Q' cq', e = .returned (.tuple #[.agg #[.slice A' 2 ca', .slice Q' 2 cq'], .agg #[.int .i64 1, .int .i64 3], .int .i64 0]) ∧ l'.length = 2 ∧ l'.map Ak.dat = [(2, [0, 2], [1]), (2, [0, 1, 2], [3, 1])] ∧ FD w' v.heap.size A' ca' l' Q' cq' [⟨0, 2, 0, 1, 1, 1, 1, 1⟩, ⟨1, 2, 0, 1, 1, 1, 1, 3⟩] := by
  have := askMark_any A ca l Q [⟨0, 2, 0, 1, 1, 1, 1, 1⟩] cq 1 0 1 1 1 v h hq ⟨by decide, by decide⟩ ⟨by decide, by decide⟩ ⟨by decide, by decide⟩ ⟨by decide, by decide⟩ ⟨by decide, by decide⟩
  rw [hl, hd] at this
  refine this.mono ?_
  rintro e w' ⟨hb, ⟨hn, _⟩ | ⟨_, A', ca', l', Q', cq', he, hdat, hfd⟩⟩
  · exact absurd (show Ak.putE [(2, [0, 2], [1]), (2, [0, 1, 2], [3, 1])] ([⟨0, 2, 0, 1, 1, 1, 1, 1⟩] : List Qr).length ⟨1, 2, 0, 1, 1, 1, 0, 0⟩ = 0 by decide +kernel) hn
  · have ht : Ak.told [(2, [0, 2], [1]), (2, [0, 1, 2], [3, 1])] ⟨1, 2, 0, 1, 1, 1, 0, 0⟩ = ⟨1, 2, 0, 1, 1, 1, 1, 3⟩ := by decide +kernel
    have hl' : l'.length = 2 := by have := congrArg List.length hdat; simpa using this
    rw [ht] at he hfd
    rw [hl'] at he
    exact ⟨hb, A', ca', l', Q', cq', he, hl', hdat, hfd⟩
theorem al4_rep (A : Option Addr) (ca : Nat) (l : List CkR) (Q : Option Addr) (cq : Nat) (v : World) (hl : l.length = 2) (hd : l.map Ak.dat = [(2, [0, 2], [1]), (2, [0, 1, 2], [3, 1])]) (h : IsCs v A l) (hq : IsQs v Q [⟨0, 2, 0, 1, 1, 1, 1, 1⟩, ⟨1, 2, 0, 1, 1, 1, 1, 3⟩]) :
    Calls Try.prog 26 #[.slice A 2 ca, .slice Q 2 cq] v fun e w' => e = .returned (.tuple #[.int .i64 2, .int .i64 0]) ∧ Below v.heap.size v w' := by
  have := askReplay_any A ca l Q cq [⟨0, 2, 0, 1, 1, 1, 1, 1⟩, ⟨1, 2, 0, 1, 1, 1, 1, 3⟩] v h hq
  rw [hl, hd, show Ak.repS [(2, [0, 2], [1]), (2, [0, 1, 2], [3, 1])] [⟨0, 2, 0, 1, 1, 1, 1, 1⟩, ⟨1, 2, 0, 1, 1, 1, 1, 3⟩] = (2, 0) by decide +kernel] at this
  exact this
theorem al4_back (A : Option Addr) (ca : Nat) (l : List CkR) (Q : Option Addr) (cq : Nat) (v : World) (hl : l.length = 2) (hd : l.map Ak.dat = [(2, [0, 1, 2], [3, 1]), (2, [0, 2], [1])]) (h : IsCs v A l) (hq : IsQs v Q [⟨0, 2, 0, 1, 1, 1, 1, 1⟩, ⟨1, 2, 0, 1, 1, 1, 1, 3⟩]) :
    Calls Try.prog 26 #[.slice A 2 ca, .slice Q 2 cq] v fun e w' => e = .returned (.tuple #[.int .i64 0, .int .i64 0]) ∧ Below v.heap.size v w' := by
  have := askReplay_any A ca l Q cq [⟨0, 2, 0, 1, 1, 1, 1, 1⟩, ⟨1, 2, 0, 1, 1, 1, 1, 3⟩] v h hq
  rw [hl, hd, show Ak.repS [(2, [0, 1, 2], [3, 1]), (2, [0, 2], [1])] [⟨0, 2, 0, 1, 1, 1, 1, 1⟩, ⟨1, 2, 0, 1, 1, 1, 1, 3⟩] = (0, 0) by decide +kernel] at this
  exact this
theorem al4_cnt0 (Q : Option Addr) (cq : Nat) (v : World) (hq : IsQs v Q [⟨0, 2, 0, 1, 1, 1, 1, 1⟩, ⟨1, 2, 0, 1, 1, 1, 1, 3⟩]) :
    Calls Try.prog 27 #[.slice Q 2 cq, .int .i64 0] v fun e w' => e = .returned (.int .i64 1) ∧ Below v.heap.size v w' := by
  have := count_any Q cq [⟨0, 2, 0, 1, 1, 1, 1, 1⟩, ⟨1, 2, 0, 1, 1, 1, 1, 3⟩] 0 v hq
  rw [show Ak.cntS [⟨0, 2, 0, 1, 1, 1, 1, 1⟩, ⟨1, 2, 0, 1, 1, 1, 1, 3⟩] 0 = 1 by decide +kernel] at this
  exact this
theorem al4_cnt1 (Q : Option Addr) (cq : Nat) (v : World) (hq : IsQs v Q [⟨0, 2, 0, 1, 1, 1, 1, 1⟩, ⟨1, 2, 0, 1, 1, 1, 1, 3⟩]) :
    Calls Try.prog 27 #[.slice Q 2 cq, .int .i64 1] v fun e w' => e = .returned (.int .i64 1) ∧ Below v.heap.size v w' := by
  have := count_any Q cq [⟨0, 2, 0, 1, 1, 1, 1, 1⟩, ⟨1, 2, 0, 1, 1, 1, 1, 3⟩] 1 v hq
  rw [show Ak.cntS [⟨0, 2, 0, 1, 1, 1, 1, 1⟩, ⟨1, 2, 0, 1, 1, 1, 1, 3⟩] 1 = 1 by decide +kernel] at this
  exact this
theorem set16 {α : Type} (a0 a1 a2 a3 a4 a5 a6 a7 a8 a9 a10 a11 a12 a13 a14 a15 : α) (l : List α) (n : Nat) (v : α) : (a0 :: a1 :: a2 :: a3 :: a4 :: a5 :: a6 :: a7 :: a8 :: a9 :: a10 :: a11 :: a12 :: a13 :: a14 :: a15 :: l).set (n + 16) v = a0 :: a1 :: a2 :: a3 :: a4 :: a5 :: a6 :: a7 :: a8 :: a9 :: a10 :: a11 :: a12 :: a13 :: a14 :: a15 :: l.set n v := rfl
theorem PL {α : Type} : ((∀ (xs : List α) (i : Nat) (h : i < xs.toArray.size), xs.toArray[i] = xs[i]'(by simpa using h)) ∧ (∀ (a : α) (zs : List α) (i : Nat) (h : i + 1 < (a :: zs).length), (a :: zs)[i + 1] = zs[i]'(by simpa using h)) ∧ (∀ (a : α) (zs : List α) (h : 0 < (a :: zs).length), (a :: zs)[0] = a)) ∧ (∀ (l : List α) (i : Nat) (v : α), l.toArray.setIfInBounds i v = (l.set i v).toArray) ∧ (∀ (x : α) (xs : List α) (a : α), (x :: xs).set 0 a = a :: xs) ∧ (∀ (x : α) (xs : List α) (n : Nat) (a : α), (x :: xs).set (n + 1) a = x :: xs.set n a) :=
  ⟨⟨fun _ _ _ => rfl, fun _ _ _ _ => rfl, fun _ _ _ => rfl⟩, fun _ _ _ => by simp, fun _ _ _ => rfl, fun _ _ _ _ => rfl⟩
theorem Ak.at_worldK {K : Act → World → Prop} {a : Act} {w : World} (S : World → Prop) (h : S w) (k : ∀ V, S V → K a V) : K a w := k w h
theorem bk_row {V : World} {B g n cap sz : Nat} {e : TypeId} {cs : List Value} (h : V.ownsRow B e sz (.slice (some ⟨g, 0, none⟩) n cap) n cs) : BK V g cs := by
  rcases h.2 with ⟨h1, _⟩ | ⟨g', cap', cur, h1, h2, h3, h4, h5, h6, h7⟩
  · cases h1
  · simp only [Value.slice.injEq, Option.some.injEq, Addr.mk.injEq, true_and, and_true] at h1
    obtain ⟨rfl, rfl⟩ := h1
    refine ⟨(Array.getElem?_eq_some_iff.1 h3).1, fun j x hx => ⟨?_, ?_⟩⟩
    · have hj := (List.getElem?_eq_some_iff.1 hx).1
      rw [h.1] at hj
      rw [World.ownsRow.cellAt h j hj]
      exact hx
    · unfold World.frozen?
      dsimp only
      rw [h3]
      simp
theorem isCs_bk {V : World} {p : Nat} {cs : List CkR} (h : BK V p (Ak.cellsC cs)) (ha : ∀ c ∈ cs, IsC V c) (hm : cs.length ≤ maxLen) : IsCs V (some ⟨p, 0, none⟩) cs :=
  ⟨fun _ => ⟨p, 0, rfl, fun i hi => by
    have := Ak.cellsC_at hi
    rw [Nat.zero_add]
    exact ⟨h.c _ this.1, h.c _ this.2.1, h.c _ this.2.2⟩⟩, ha, hm⟩
end Go.Proofs.Ytnnpmegknlgkoaa
