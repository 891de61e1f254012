/- A range over a function whose iterator keeps state in cells of its own and hands on what lies in memory: a law for the caller, and what is asked of the iterator. A region that draws its order in the body of a range over a function: what is shown of it outside a round holds within one, if it defers nothing. -/
import Derived.RangeFuncNested
import Derived.RangeFuncBound
import Derived.RangeFuncCalls
import Derived.RangeFuncLeaves
import Derived.Test.YtpcdggkajindbaaGreatSd
import Derived.OwnWalkIn
import Derived.OrdersIn
import Derived.Deep.RegionHeld3
namespace Go.Proofs.YtpcdggkajindbaaGreat
open Go.RowKit
/-- The block of the slice that a box holds. -/
def rowOf (W : World) (Bt : Nat) : Option Nat := match W.cell? ⟨Bt, 0, none⟩ with | some v => v.ownBlock | none => none
theorem rowOf_eq {A B : World} {Bt : Nat} (h : B.cell? ⟨Bt, 0, none⟩ = A.cell? ⟨Bt, 0, none⟩) : rowOf B Bt = rowOf A Bt := by unfold rowOf; rw [h]
/-- What the caller's round may do: it writes blocks of its own, a row that a box of its own holds, and new blocks. -/
structure KPr (Ws : List Nat) (Bt : Nat) (A B : World) : Prop where
  gb : GB (fun k => k ∈ Ws ∨ rowOf A Bt = some k) A B
  row : ∀ k, rowOf B Bt = some k → rowOf A Bt = some k ∨ A.heap.size ≤ k
theorem KPr.trans {Ws : List Nat} {Bt : Nat} {A B C : World} (h : KPr Ws Bt A B) (k : KPr Ws Bt B C) : KPr Ws Bt A C :=
  ⟨⟨k.gb.os.trans h.gb.os, k.gb.tape.trans h.gb.tape, k.gb.output.trans h.gb.output, Nat.le_trans h.gb.size k.gb.size, fun j hj hn => by
    refine (k.gb.block j (Nat.lt_of_lt_of_le hj h.gb.size) (fun hf => ?_)).trans (h.gb.block j hj hn)
    rcases hf with hf | hf
    · exact hn (.inl hf)
    · rcases h.row j hf with hf | hf
      · exact hn (.inr hf)
      · omega⟩, fun j hj => by
    rcases k.row j hj with hk | hk
    · exact h.row j hk
    · exact .inr (Nat.le_trans h.gb.size hk)⟩
theorem GB.put {F : Nat → Prop} {W : World} {l : Nat} (hl : F l) (o : Obj) : GB F W (W.putObj l o) :=
  ⟨rfl, rfl, rfl, by simp, fun k _ hn => World.putObj_heap_other (fun e => hn (e ▸ hl))⟩
theorem GB.to {F F' : Nat → Prop} {V W : World} (h : GB F V W) (hF : ∀ k, k < V.heap.size → F k → F' k) : GB F' V W := ⟨h.os, h.tape, h.output, h.size, fun k hk hn => h.block k hk (fun hf => hn (hF k hk hf))⟩
theorem GB.comp {F : Nat → Prop} {U V W : World} (h : GB F U V) (k : GB F V W) : GB F U W :=
  ⟨k.os.trans h.os, k.tape.trans h.tape, k.output.trans h.output, Nat.le_trans h.size k.size, fun j hj hn => (k.block j (Nat.lt_of_lt_of_le hj h.size) hn).trans (h.block j hj hn)⟩
variable {F : Fence} {n : Nat} {P : Program}
/-- What is asked of an iterator that writes its box Bd and blocks that it has laid ahead of its first round (those from the caller's on, below a bound that it names). -/
def SeqR {α : Type} (F : Fence) (n : Nat) (P : Program) (gf : Nat) (lb : Array Value) (encs : α → Array Value) (Bd Bt : Nat) (Ws : List Nat) (S : List α → World → Prop) (N : Nat) (W1 : World) : Prop :=
  ∀ (l : Nat) (J : Nat → List α → World → Prop),
    (∀ n1 s A B, J n1 s A → GB (fun k => k = Bd ∨ (W1.heap.size ≤ k ∧ k < n1)) A B → J n1 s B) →
    (∀ n1 s A r, J n1 s A → rowOf A Bt = some r → r < A.heap.size ∧ n1 ≤ r) →
    (∀ n1 W, Below W1.heap.size W1 W → W1.heap.size ≤ n1 → J n1 [] W) →
    (∀ n1 pre x W, J n1 pre W → W1.heap.size ≤ n1 → n1 ≤ W.heap.size → pre.length < N → YieldAt F (n - 1) P l (encs x) W fun e W' => e = .returned (.bool true) ∧ J n1 (pre ++ [x]) W' ∧ KPr Ws Bt W W') →
    CallsIn F n P gf (#[.func (.yield l) #[] #[]] ++ lb) W1 fun e W' => (∃ v, e = .returned v) ∧ ∃ n1 xs, W1.heap.size ≤ n1 ∧ S xs W' ∧ J n1 xs W'
/-- A statement 'for .. := range f', whose body always goes on. -/
theorem range_rel {α : Type} {g : Operand} {ps : Array Tmp} {assign body : Code} {Q : Exit → Act → World → Prop} {a : Act} {w : World}
    (hro : F.round = none) (h1 : 1 ≤ n) {gf : Nat} {lb : Array Value} (hg : a.eval g = .func (.func gf) #[] lb) (hFg : F.fn gf) (eg : ∀ args w, (callFunc gf args).run P w = .ok (.enter gf args) w)
    {encs : α → Array Value} (hps : ∀ x, (encs x).size = ps.size) {Bd Bt : Nat} {Ws : List Nat} {S : List α → World → Prop} {N : Nat} (hBt : Bt < w.heap.size) (hBd : Bd < w.heap.size) (hWs : ∀ k ∈ Ws, k < w.heap.size)
    (hseq : ∀ W1, Below w.heap.size w W1 → W1.heap.size = w.heap.size + 2 → SeqR F (n - 1) P gf lb encs Bd Bt (w.heap.size :: (w.heap.size + 1) :: Ws) S N W1)
    (hS : ∀ xs A B, S xs A → GB (fun k => k = w.heap.size + 1) A B → S xs B)
    (I : Nat → List α → World → Prop) (hI : ∀ n1 s A B, I n1 s A → GB (fun k => k = Bd ∨ (w.heap.size ≤ k ∧ k < n1)) A B → I n1 s B)
    (hIr : ∀ n1 s A r, I n1 s A → rowOf A Bt = some r → r < A.heap.size ∧ n1 ≤ r) (h0 : ∀ n1 W, w.heap.size + 2 ≤ n1 → Below w.heap.size w W → I n1 [] W)
    (Ax : α → Act → World → Prop) (hAx : ∀ x a' A B, Ax x a' A → GB (fun k => k = w.heap.size + 1) A B → Ax x a' B)
    (hassign : ∀ (l : Nat) (x : α) (W : World) (K : Act → World → Prop), w.heap.size + 2 ≤ W.heap.size → (∀ r, rowOf W Bt = some r → r < W.heap.size) → (∀ a' W', Below W.heap.size W W' → Ax x a' W' → K a' W') →
      assign.wpIn (F.inRound l) (n - 1 - 1) P (Exit.then K (fun _ _ _ => False)) { tmps := (ps.zip (encs x)).foldl (fun t (p, v) => t.setIfInBounds p v) a.tmps, defers := [] } W)
    (hbody : ∀ (l n1 : Nat) (pre : List α) (x : α) (a' : Act) (W : World), I n1 pre W → w.heap.size + 2 ≤ n1 → n1 ≤ W.heap.size → Ax x a' W → pre.length < N →
      body.wpIn (F.inRound l) (n - 1 - 1) P (fun e _ W' => e = .normal ∧ I n1 (pre ++ [x]) W' ∧ KPr Ws Bt W W') a' W)
    (hdone : ∀ (n1 : Nat) (xs : List α) (W : World), S xs W → I n1 xs W → w.heap.size + 2 ≤ W.heap.size → W.heap[w.heap.size]? = some (.deferred (some [])) → Q .normal { a with defers := { target := .collected w.heap.size, args := #[] } :: a.defers } W) :
    (Code.rangeFunc g ps assign body).wpIn F n P Q a w := by
  refine wpIn_rangeFunc fun fn hfn => ?_
  rw [hro]; have hen := run_enterLoop_outer (P := P) (w := w) fn a.tmps ps assign body
  obtain ⟨rec, hrec⟩ : ∃ rec : LoopState → Option Code → Loop, rec = fun st pe => { state := st, pending := pe, fn, tmps := a.tmps, params := ps, assign, body, defers := w.heap.size } := ⟨_, rfl⟩
  have er : ({ state := .ready, pending := none, fn, tmps := a.tmps, params := ps, assign, body, defers := w.heap.size } : Loop) = rec .ready none := by rw [hrec]
  rw [er] at hen; have hB1 : Below w.heap.size w ((w.alloc (.deferred (some []))).alloc (.loop (rec .ready none))) := below_al (below_al (Below.refl _ _) _) _
  have hs1 : ((w.alloc (.deferred (some []))).alloc (.loop (rec .ready none))).heap.size = w.heap.size + 2 := by simp
  have hl1 : ((w.alloc (.deferred (some []))).alloc (.loop (rec .ready none))).heap[w.heap.size + 1]? = some (.loop (rec .ready none)) := by
    have := World.alloc_heap_new (w.alloc (.deferred (some []))) (.loop (rec .ready none))
    rwa [World.size_alloc] at this
  have hk1 : ((w.alloc (.deferred (some []))).alloc (.loop (rec .ready none))).heap[w.heap.size]? = some (.deferred (some [])) :=
    (Below.heap_alloc _ _ _ (by simp)).trans (World.alloc_heap_new w _)
  generalize (w.alloc (.deferred (some []))).alloc (.loop (rec .ready none)) = W1 at hen hB1 hs1 hl1 hk1
  refine ⟨_, _, W1, { target := .fn (.func gf) lb, args := #[.func (.yield (w.heap.size + 1)) #[] #[]] }, W1, gf, #[.func (.yield (w.heap.size + 1)) #[] #[]] ++ lb, W1, hen, ?_, ?_, ?_, fun _ => h1, ?_⟩
  · simp only [resolve, hg]
    simp [go_sem]
  · intro f' hf'
    simp [Target.leads] at hf'
    exact hf' ▸ hFg
  · simp [invoke, go_sem, eg]
  refine (hseq W1 hB1 hs1 (w.heap.size + 1) (fun n1 s W => I n1 s W ∧ W.heap[w.heap.size + 1]? = some (.loop (rec .ready none)) ∧ W.heap[w.heap.size]? = some (.deferred (some []))) ?_ ?_ ?_ ?_).mono ?_
  · rintro n1 s A B ⟨hi, hl, hk⟩ hg'
    have h1 := (Array.getElem?_eq_some_iff.1 hl).1; refine ⟨hI n1 s A B hi (hg'.to fun k _ hk => hk.imp id fun hk => ⟨by omega, hk.2⟩), (hg'.block _ h1 (by omega)).trans hl, (hg'.block _ (by omega) (by omega)).trans hk⟩
  · rintro n1 s A r ⟨hi, _⟩ hr
    exact hIr n1 s A r hi hr
  · intro n1 W hb hn1
    exact ⟨h0 n1 W (by omega) (hB1.trans (hb.mono hB1.size)), (hb.block _ (by omega)).trans hl1, (hb.block _ (by omega)).trans hk1⟩
  · rintro n1 pre x W ⟨hi, hl, hk⟩ hn1 hnW hlen
    have hy := run_yield (P := P) (args := encs x) hl (by rw [hrec]; exact hps x); rw [hrec] at hy; refine ⟨fn, _, assign, body, hy, roundIn_of_wpIn hfn (hassign _ x W _ (by omega) (fun r hr => (hIr n1 pre W r hi hr).1) fun a' Wa hba hax => ?_)⟩; have hla := (hba.block _ (by omega)).trans hl; have hka := (hba.block _ (by omega)).trans hk; have hsa := hba.size; refine ⟨_, run_beginRound hla (by rw [hrec]), ?_⟩; have g2 : GB (fun k => k = w.heap.size + 1) Wa (Wa.putObj (w.heap.size + 1) (.loop { rec .ready none with state := .busy })) := GB.put (F := fun k => k = w.heap.size + 1) rfl _; have hia : I n1 pre Wa := hI n1 pre W Wa hi ((GB.refl _ _).below hba); have hl2 : (Wa.putObj (w.heap.size + 1) (.loop { rec .ready none with state := .busy })).heap[w.heap.size + 1]? = some (.loop { rec .ready none with state := .busy }) := World.putObj_heap_same (by omega); have hk2 : (Wa.putObj (w.heap.size + 1) (.loop { rec .ready none with state := .busy })).heap[w.heap.size]? = some (.deferred (some [])) := (World.putObj_heap_other (by omega)).trans hka
    have hs2 : (Wa.putObj (w.heap.size + 1) (.loop { rec .ready none with state := .busy })).heap.size = Wa.heap.size := by simp
    generalize Wa.putObj (w.heap.size + 1) (.loop { rec .ready none with state := .busy }) = W2 at g2 hl2 hk2 hs2
    have hr2 : rowOf W2 Bt = rowOf W Bt := by
      refine rowOf_eq ?_; have e1 := World.cell?_of_block (a := ⟨Bt, 0, none⟩) (g2.block Bt (by omega) (by omega)); have e2 := hba.cell (p := ⟨Bt, 0, none⟩) (show Bt < W.heap.size by omega); exact e1.trans e2
    refine wpIn_mono (hbody _ n1 pre x a' W2 (hI n1 pre Wa W2 hia (g2.to fun k _ hk => .inr ⟨by omega, by omega⟩)) (by omega) (by omega) (hAx x a' Wa W2 hax g2) hlen) ?_; rintro e a3 W3 ⟨rfl, hi3, hkp⟩; have h23 := hkp.gb.size
    have hno : ∀ k, k = w.heap.size ∨ k = w.heap.size + 1 → W3.heap[k]? = W2.heap[k]? := fun k hk => hkp.gb.block k (by omega) (fun hf => by
      rcases hf with hf | hf
      · have := hWs k hf
        omega
      · rw [hr2] at hf
        have := hIr n1 pre W k hi hf
        omega)
    have hl3 := (hno _ (.inr rfl)).trans hl2; have hk3 := (hno _ (.inl rfl)).trans hk2; have hend := run_endRound (P := P) none hl3; have hl4 : (W3.putObj (w.heap.size + 1) (.loop (rec .ready none))).heap[w.heap.size + 1]? = some (.loop (rec .ready none)) := World.putObj_heap_same (Array.getElem?_eq_some_iff.1 hl3).1; have hk4 : (W3.putObj (w.heap.size + 1) (.loop (rec .ready none))).heap[w.heap.size]? = some (.deferred (some [])) := (World.putObj_heap_other (by omega)).trans hk3; have g4 : GB (fun k => k = w.heap.size + 1) W3 (W3.putObj (w.heap.size + 1) (.loop (rec .ready none))) := GB.put (F := fun k => k = w.heap.size + 1) rfl _
    have es : ({ ({ rec .ready none with state := .busy } : Loop) with state := if Option.isNone (none : Option Code) then .ready else .done, pending := none } : Loop) = rec .ready none := by rw [hrec]; rfl
    rw [es] at hend; refine ⟨_, _, hend, rfl, ⟨hI n1 _ W3 _ hi3 (g4.to fun k _ hk => .inr ⟨by omega, by omega⟩), hl4, hk4⟩, ?_, ?_⟩
    · have a1 : GB (fun k => k ∈ w.heap.size :: (w.heap.size + 1) :: Ws ∨ rowOf W Bt = some k) W W2 := ((GB.refl _ _).below hba).comp (g2.to fun k _ hk => .inl (by simp [hk]))
      have a2 : GB (fun k => k ∈ w.heap.size :: (w.heap.size + 1) :: Ws ∨ rowOf W Bt = some k) W2 W3 := hkp.gb.to fun k _ hk => by
        rcases hk with hk | hk
        · exact .inl (by simp [hk])
        · exact .inr (by rw [← hr2]; exact hk)
      exact (a1.comp a2).comp (g4.to fun k _ hk => .inl (by simp [hk]))
    · intro k hk
      have e1 : rowOf (W3.putObj (w.heap.size + 1) (.loop (rec .ready none))) Bt = rowOf W3 Bt := rowOf_eq (World.cell?_of_block (a := ⟨Bt, 0, none⟩) (g4.block Bt (by omega) (by omega))); rw [e1] at hk
      rcases hkp.row k hk with hk | hk
      · rw [hr2] at hk
        exact .inl hk
      · exact .inr (by omega)
  · rintro e W2 ⟨⟨v, rfl⟩, n1, xs, hn1, hs, hi, hl, hk⟩
    have hlt := (Array.getElem?_eq_some_iff.1 hl).1; have hend := run_endLoop (P := P) hl (by rw [hrec]; simp); rw [hrec] at hend; have g3 : GB (fun k => k = w.heap.size + 1) W2 (W2.putObj (w.heap.size + 1) (.loop { rec .ready none with state := .exhausted })) := GB.put (F := fun k => k = w.heap.size + 1) rfl _; refine ⟨none, _, by rw [hrec] at *; exact hend, hdone n1 xs _ (hS xs _ _ hs g3) (hI n1 xs _ _ hi (g3.to fun k _ hk => .inr ⟨by omega, by omega⟩)) ?_ ((World.putObj_heap_other (by omega)).trans hk)⟩
    simp
    omega
end Go.Proofs.YtpcdggkajindbaaGreat
namespace Go.Proofs.YtpcdggkajindbaaGreat
open Go.RowKit
theorem oper_inRound {n l : Nat} {P : Program} {o : Oper} {a : Act} {w : World} {K : Act → World → Prop} {Q : Exit → Act → World → Prop} (hd : ∀ c, o.op ≠ .defer c) (h : o.wp P a w K Q) : o.wpIn (Fence.wide.inRound l) n P a w K Q := by
  have hde : (Fence.wide.inRound l).depth.isSome = true → 1 ≤ n := fun h => by simp [Fence.wide] at h
  refine ⟨fun _ _ => trivial, ?_⟩; rw [Oper.semAt_plain _ _ _ hd]
  unfold Oper.wp at h
  generalize (execOp a.eval o).run P w = r at *
  cases r with
  | ok x w' =>
    cases x <;> simp only [Oper.upon, Oper.uponIn] at h ⊢
    case value => exact h
    case skip => exact h
    case defer => exact h
    case enter f args => exact ⟨hde, (callsIn_wide.2 h).inRound l⟩
    case row row args =>
      refine ⟨hde, fun c cs _ => ?_⟩; obtain ⟨v, w2, h1, h2⟩ := h c cs; exact ⟨v, w2, h1, by rw [fenced_inRound]; exact stepsIn_wide.2 h2⟩
  | halt x w' =>
    cases x <;> simp only [Oper.upon, Oper.uponIn] at h ⊢
    case panic => exact h
theorem ops_inRound {n l : Nat} {P : Program} {ops : Array Oper} {Q : Exit → Act → World → Prop} (hd : ∀ (i : Nat) o c, ops[i]? = some o → o.op ≠ .defer c) (hQ : ¬ LetsOut Q) : ∀ (s : List Nat) (a : Act) (w : World), wpOps P ops Q s a w → wpOpsIn (Fence.wide.inRound l) n P ops Q s a w
  | [], _, _, h => h
  | i :: s, a, w, h => by
    unfold wpOps at h
    unfold wpOpsIn
    split
    · rename_i e
      rw [e] at h; exact ops_inRound hd hQ s a w h
    · rename_i o e
      rw [e] at h
      simp only at h
      split
      · rename_i hw
        rw [if_pos hw] at h
        rcases h with h | h
        · exact Oper.wpIn_mono (fun a w => ops_inRound hd hQ s a w) (oper_inRound (hd i o · e) h)
        · exact absurd h.2 hQ
      · rename_i hw
        rw [if_neg hw] at h; exact ⟨fun _ _ => trivial, ops_inRound hd hQ s _ w h⟩
theorem region_inRound {n l id : Nat} {P : Program} {ops : Array Oper} {Q : Exit → Act → World → Prop} {S : World → Prop} {a : Act} {w : World} (hd : (ops.toList.all fun o => match o.op with | .defer _ => false | _ => true) = true) (hQ : ¬ LetsOut Q) (hm : P.follows .mixedOrders = true) (hS : S w.drew)
    (h : S w.drew → wpAnyH P .any ops Q S ops.size (Array.replicate ops.size false) a w.drew) : (Code.region id ops true).wpIn (Fence.wide.inRound l) n P Q a w :=
  wpIn_region_draw fun t => by
    refine ops_inRound (fun i o c hi e => ?_) hQ _ _ _ ?_
    · have h1 := List.all_eq_true.1 hd o (Array.mem_toList_iff.2 (Array.mem_of_getElem? hi))
      simp [e] at h1
    · simp only [Region.schedule, hm, Bool.true_or, if_true]
      exact wpAny_sound ops.size t _ a _ (wpAny_of_held _ _ _ _ (h hS))
end Go.Proofs.YtpcdggkajindbaaGreat

