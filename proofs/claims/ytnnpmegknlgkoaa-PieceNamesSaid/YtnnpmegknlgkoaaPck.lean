/- Check of package piece. -/
import Derived.Test.YtnnpmegknlgkoaaSpn
import Derived.Test.YtnnpmegknlgkoaaTree
import Derived.Test.YtnnpmegknlgkoaaGf
namespace Go.Proofs.Ytnnpmegknlgkoaa
open Go.RowKit

set_option linter.unusedSimpArgs false in
set_option maxHeartbeats 4000000 in
set_option maxRecDepth 100000 in
theorem pChk_any (A : Option Addr) (cap : Nat) (xs : List Raw) (w : World) (h : IsS w A xs) :
    Calls Try.prog 18 #[.slice A xs.length cap] w fun e w' => e = .returned (.int .i64 (Pc.chk xs)) ∧ Below w.heap.size w w' := by
  by_cases hm : 60 < xs.length
  · rw [Pc.chk_many hm]
    have hg : decide ((60 : Int) < (xs.length : Int)) = true := decide_eq_true (by omega)
    clear h
    go_enter Try.func18, Try.ntmps18
    go_wp2
    go_ret
    exact ⟨rfl, Below.refl _ _⟩
  · have hg : decide ((60 : Int) < (xs.length : Int)) = false := decide_eq_false (by omega)
    obtain ⟨hI, hq, _⟩ := id h
    have QS := Lib.hid h.bd
    obtain ⟨b, off, hA, hc⟩ : ∃ b off, (0 < xs.length → A = some ⟨b, off, none⟩) ∧ ∀ i, i < xs.length → w.cell? ⟨b, off + i * 4, none⟩ = some (.int .i64 (Pc.at_ xs i).a) ∧ w.cell? ⟨b, off + i * 4 + 1, none⟩ = some (.int .i64 (Pc.at_ xs i).b) ∧ w.cell? ⟨b, off + i * 4 + 2, none⟩ = some (.int .i64 (Pc.at_ xs i).c) ∧ w.cell? ⟨b, off + i * 4 + 3, none⟩ = some (.int .i64 (Pc.at_ xs i).d) := by
      by_cases h0 : 0 < xs.length
      · obtain ⟨b, off, e, k⟩ := hI h0
        exact ⟨b, off, fun _ => e, k⟩
      · exact ⟨0, 0, fun k => absurd k h0, fun i hi => absurd hi (by omega)⟩
    have HC := Lib.hid hc
    have HA := Lib.hid hA
    clear h hI hq hc hA
    go_enter Try.func18, Try.ntmps18
    go_wp2_with fail
    go_loopw [3, 4, 10] (fun _ _ i v => ∃ k : Nat, k ≤ xs.length ∧ i = .int .i64 k ∧ (∀ j, j < k → Pc.bad xs j = false) ∧ Below w.heap.size w v) (fun _ _ i _ => xs.length - (intOf i).toNat)
    case atStart => exact ⟨0, Nat.zero_le _, rfl, fun j hj => absurd hj (Nat.not_lt_zero _), Below.refl _ _⟩
    case round =>
      obtain ⟨k, hk, rfl, hok, hbb⟩ := hrel
      have HOK := Lib.hid hok
      clear hok
      by_cases hlt : k < xs.length
      · have hA' := HA.out (by omega)
        subst hA'
        obtain ⟨s, hs⟩ : ∃ s, Pc.at_ xs k = s := ⟨_, rfl⟩
        have hsb := QS.out k
        rw [hs] at hsb
        have c0 := keepC hbb (HC.out k hlt).1
        have c1 := keepC hbb (HC.out k hlt).2.1
        have c2 := keepC hbb (HC.out k hlt).2.2.1
        have c3 := keepC hbb (HC.out k hlt).2.2.2
        rw [hs] at c0 c1 c2 c3
        have is := fun v => isSpan_any s v hsb
        by_cases hsp : Pc.spanB s = true
        · rcases k with _ | j
          · have EB := Lib.hid (show Pc.bad xs 0 = false by unfold Pc.bad; rw [hs, hsp]; rfl)
            have g1 : decide ((0 : Int) < ((0 : Nat) : Int)) = false := rfl
            rw [hsp] at is
            have IS := Lib.hid is
            clear is
            simp only [Nat.zero_mul, Nat.add_zero] at c0 c1 c2 c3
            go_upto_region 6 with fail
            refine at_worldQ (fun v => Below w.heap.size w v ∧ BK v wr.heap.size [.int .i64 s.a, .int .i64 s.b, .int .i64 s.c, .int .i64 s.d]) ⟨below_al hbb _, BK.new wr [.int .i64 s.a, .int .i64 s.b, .int .i64 s.c, .int .i64 s.d] _⟩ (fun V hS => ?_)
            clear hbb c0 c1 c2 c3
            obtain ⟨hbb, BP⟩ := hS
            have p0 := BP.c 0 rfl
            have p1 := BP.c 1 rfl
            have p2 := BP.c 2 rfl
            have p3 := BP.c 3 rfl
            generalize wr.heap.size = PP at *
            clear BP
            refine wp_region_noPanic ?_
            refine wp_region_held_drew (S := (Below V.heap.size V)) (by kernel_rfl) ((Below.refl _ _).drew) (fun hHeld => ?_)
            refine at_anyH (Below V.heap.size V) hHeld (fun wz0 hNew => ?_)
            clear hHeld
            have hHeld := hNew
            clear hNew
            refine wpAnyH_take (i := 0) (oi := _) (v := ?vz1) rfl (by kernel_rfl) (by kernel_rfl) (by kernel_rfl) (fun _ _ _ h => h) (Or.inl ⟨by kernel_rfl, ?hyz1⟩) hHeld ?restz1
            case hyz1 => (intro w hSw; have kp0 := keepC hSw p0; have kp1 := keepC hSw p1; have kp2 := keepC hSw p2; have kp3 := keepC hSw p3; go_simp; first | done | (with_reducible rfl))
            try simp only [Act.put, List.getElem_toArray, List.getElem_cons_succ, List.getElem_cons_zero, List.setIfInBounds_toArray, List.set_cons_zero, List.set_cons_succ]
            refine wpAnyH_ready (rs := [1]) (by kernel_rfl) (by simp) (AllReadyH.cons (o := _) rfl (fun K hK => ?_) AllReadyH.nil)
            go_simp
            refine (IS.out _).mono ?_
            rintro e wz2 ⟨rfl, hb3⟩
            go_wp2_with fail
            refine hK.out _ _ (keepB hHeld hb3) (fun hNew => ?_)
            clear hb3
            clear hHeld hK K
            have hHeld := hNew
            clear hNew
            try simp only [Act.put, List.getElem_toArray, List.getElem_cons_succ, List.getElem_cons_zero, List.setIfInBounds_toArray, List.set_cons_zero, List.set_cons_succ]
            refine wpAnyH_take (i := 2) (oi := _) (v := ?vz3) rfl (by kernel_rfl) (by kernel_rfl) (by kernel_rfl) (fun _ _ _ h => h) (Or.inl ⟨by kernel_rfl, ?hyz3⟩) hHeld ?restz3
            case hyz3 => (intro w hSw; go_simp; first | done | (with_reducible rfl))
            try simp only [Act.put, List.getElem_toArray, List.getElem_cons_succ, List.getElem_cons_zero, List.setIfInBounds_toArray, List.set_cons_zero, List.set_cons_succ]
            refine wpAnyH_take (i := 3) (oi := _) (v := ?vz4) rfl (by kernel_rfl) (by kernel_rfl) (by kernel_rfl) (fun _ _ _ h => h) (Or.inl ⟨by kernel_rfl, ?hyz4⟩) hHeld ?restz4
            case hyz4 => (intro w hSw; go_simp; first | done | (with_reducible rfl))
            try simp only [Act.put, List.getElem_toArray, List.getElem_cons_succ, List.getElem_cons_zero, List.setIfInBounds_toArray, List.set_cons_zero, List.set_cons_succ]
            refine wpAnyH_take (i := 4) (oi := _) (v := ?vz5) rfl (by kernel_rfl) (by kernel_rfl) (by kernel_rfl) (fun _ _ _ h => h) (Or.inl ⟨by kernel_rfl, ?hyz5⟩) hHeld ?restz5
            case hyz5 => (intro w hSw; go_simp; first | done | (with_reducible rfl))
            try simp only [Act.put, List.getElem_toArray, List.getElem_cons_succ, List.getElem_cons_zero, List.setIfInBounds_toArray, List.set_cons_zero, List.set_cons_succ]
            refine wpAnyH_take (i := 5) (oi := _) (v := ?vz6) rfl (by kernel_rfl) (by kernel_rfl) (by kernel_rfl) (fun _ _ _ h => h) (Or.inl ⟨by kernel_rfl, ?hyz6⟩) hHeld ?restz6
            case hyz6 => (intro w hSw; go_simp; first | done | (with_reducible rfl))
            try simp only [Act.put, List.getElem_toArray, List.getElem_cons_succ, List.getElem_cons_zero, List.setIfInBounds_toArray, List.set_cons_zero, List.set_cons_succ]
            refine wpAnyH_take (i := 6) (oi := _) (v := ?vz7) rfl (by kernel_rfl) (by kernel_rfl) (by kernel_rfl) (fun _ _ _ h => h) (Or.inl ⟨by kernel_rfl, ?hyz7⟩) hHeld ?restz7
            case hyz7 => (intro w hSw; go_simp; first | done | (with_reducible rfl))
            try simp only [Act.put, List.getElem_toArray, List.getElem_cons_succ, List.getElem_cons_zero, List.setIfInBounds_toArray, List.set_cons_zero, List.set_cons_succ]
            refine wpAnyH_take (i := 7) (oi := _) (v := undef) rfl (by kernel_rfl) (by kernel_rfl) (by kernel_rfl) (fun _ _ _ h => h) (Or.inr ⟨by kernel_rfl, rfl⟩) hHeld ?_
            try simp only [Act.put, List.getElem_toArray, List.getElem_cons_succ, List.getElem_cons_zero, List.setIfInBounds_toArray, List.set_cons_zero, List.set_cons_succ]
            refine wpAnyH_take (i := 8) (oi := _) (v := undef) rfl (by kernel_rfl) (by kernel_rfl) (by kernel_rfl) (fun _ _ _ h => h) (Or.inr ⟨by kernel_rfl, rfl⟩) hHeld ?_
            try simp only [Act.put, List.getElem_toArray, List.getElem_cons_succ, List.getElem_cons_zero, List.setIfInBounds_toArray, List.set_cons_zero, List.set_cons_succ]
            refine wpAnyH_take (i := 9) (oi := _) (v := undef) rfl (by kernel_rfl) (by kernel_rfl) (by kernel_rfl) (fun _ _ _ h => h) (Or.inr ⟨by kernel_rfl, rfl⟩) hHeld ?_
            try simp only [Act.put, List.getElem_toArray, List.getElem_cons_succ, List.getElem_cons_zero, List.setIfInBounds_toArray, List.set_cons_zero, List.set_cons_succ]
            refine wpAnyH_take (i := 10) (oi := _) (v := undef) rfl (by kernel_rfl) (by kernel_rfl) (by kernel_rfl) (fun _ _ _ h => h) (Or.inr ⟨by kernel_rfl, rfl⟩) hHeld ?_
            try simp only [Act.put, List.getElem_toArray, List.getElem_cons_succ, List.getElem_cons_zero, List.setIfInBounds_toArray, List.set_cons_zero, List.set_cons_succ]
            refine wpAnyH_take (i := 11) (oi := _) (v := undef) rfl (by kernel_rfl) (by kernel_rfl) (by kernel_rfl) (fun _ _ _ h => h) (Or.inr ⟨by kernel_rfl, rfl⟩) hHeld ?_
            try simp only [Act.put, List.getElem_toArray, List.getElem_cons_succ, List.getElem_cons_zero, List.setIfInBounds_toArray, List.set_cons_zero, List.set_cons_succ]
            refine wpAnyH_take (i := 12) (oi := _) (v := undef) rfl (by kernel_rfl) (by kernel_rfl) (by kernel_rfl) (fun _ _ _ h => h) (Or.inr ⟨by kernel_rfl, rfl⟩) hHeld ?_
            try simp only [Act.put, List.getElem_toArray, List.getElem_cons_succ, List.getElem_cons_zero, List.setIfInBounds_toArray, List.set_cons_zero, List.set_cons_succ]
            refine wpAnyH_take (i := 13) (oi := _) (v := undef) rfl (by kernel_rfl) (by kernel_rfl) (by kernel_rfl) (fun _ _ _ h => h) (Or.inr ⟨by kernel_rfl, rfl⟩) hHeld ?_
            try simp only [Act.put, List.getElem_toArray, List.getElem_cons_succ, List.getElem_cons_zero, List.setIfInBounds_toArray, List.set_cons_zero, List.set_cons_succ]
            refine wpAnyH_take (i := 14) (oi := _) (v := undef) rfl (by kernel_rfl) (by kernel_rfl) (by kernel_rfl) (fun _ _ _ h => h) (Or.inr ⟨by kernel_rfl, rfl⟩) hHeld ?_
            try simp only [Act.put, List.getElem_toArray, List.getElem_cons_succ, List.getElem_cons_zero, List.setIfInBounds_toArray, List.set_cons_zero, List.set_cons_succ]
            refine wpAnyH_take (i := 15) (oi := _) (v := undef) rfl (by kernel_rfl) (by kernel_rfl) (by kernel_rfl) (fun _ _ _ h => h) (Or.inr ⟨by kernel_rfl, rfl⟩) hHeld ?_
            try simp only [Act.put, List.getElem_toArray, List.getElem_cons_succ, List.getElem_cons_zero, List.setIfInBounds_toArray, List.set_cons_zero, List.set_cons_succ]
            refine wpAnyH_take (i := 16) (oi := _) (v := undef) rfl (by kernel_rfl) (by kernel_rfl) (by kernel_rfl) (fun _ _ _ h => h) (Or.inr ⟨by kernel_rfl, rfl⟩) hHeld ?_
            try simp only [Act.put, List.getElem_toArray, List.getElem_cons_succ, List.getElem_cons_zero, List.setIfInBounds_toArray, List.set_cons_zero, List.set_cons_succ]
            refine wpAnyH_take (i := 17) (oi := _) (v := ?vz18) rfl (by kernel_rfl) (by kernel_rfl) (by kernel_rfl) (fun _ _ _ h => h) (Or.inl ⟨by kernel_rfl, ?hyz18⟩) hHeld ?restz18
            case hyz18 => (intro w hSw; go_simp; first | done | (with_reducible rfl))
            try simp only [Act.put, List.getElem_toArray, List.getElem_cons_succ, List.getElem_cons_zero, List.setIfInBounds_toArray, List.set_cons_zero, List.set_cons_succ]
            refine wpAnyH_take (i := 18) (oi := _) (v := ?vz19) rfl (by kernel_rfl) (by kernel_rfl) (by kernel_rfl) (fun _ _ _ h => h) (Or.inl ⟨by kernel_rfl, ?hyz19⟩) hHeld ?restz19
            case hyz19 => (intro w hSw; go_simp; first | done | (with_reducible rfl))
            try simp only [Act.put, List.getElem_toArray, List.getElem_cons_succ, List.getElem_cons_zero, List.setIfInBounds_toArray, List.set_cons_zero, List.set_cons_succ]
            refine wpAnyH_done (by kernel_rfl) ?_ _
            refine NoPanic.normal ?_
            replace hbb := keepB hbb hHeld
            go_wp2_with fail
            go_roundw
            case rel => exact ⟨0 + 1, by omega, by go_num, fun j hj => (Nat.lt_succ_iff_lt_or_eq.1 hj).elim (HOK.out j) (fun e => e ▸ EB.out), hbb⟩
            case measure => simp [intOf]; omega
          · obtain ⟨t, ht⟩ : ∃ t, Pc.at_ xs j = t := ⟨_, rfl⟩
            have htb := QS.out j
            rw [ht] at htb
            have x2 := keepC hbb (HC.out j (by omega)).2.2.1
            have x3 := keepC hbb (HC.out j (by omega)).2.2.2
            rw [ht] at x2 x3
            have ls := fun v => pless_any t.c t.d s.a s.b v htb.2.1 htb.2.2 hsb.1.1 hsb.1.2
            have hbd : Pc.bad xs (j + 1) = !Pc.lessB t.c t.d s.a s.b := by unfold Pc.bad; rw [hs, hsp, show j + 1 - 1 = j from rfl, ht]; simp
            have g1 : decide ((0 : Int) < (j : Int) + 1) = true := decide_eq_true (by omega)
            have t4 : IntKind.i64.wrap ((j : Int) + 1 - 1) = (j : Int) := by rw [show (j : Int) + 1 - 1 = j by omega]; exact IntWalk.i64_in _ (by omega)
            have t7 : IntKind.i64.wrap (j : Int) = (j : Int) := IntWalk.i64_in _ (by omega)
            have t5 : (j : Int) < (xs.length : Int) := by omega
            have t8 : (0 : Int) ≤ (j : Int) := by omega
            by_cases hle : Pc.lessB t.c t.d s.a s.b = true
            · rw [hle] at ls hbd
              have LS := Lib.hid ls
              have EB := Lib.hid (show Pc.bad xs (j + 1) = false from hbd)
              clear ls hbd
              rw [hsp] at is
              have IS := Lib.hid is
              clear is
              go_upto_region 6 with fail
              refine at_worldQ (fun v => Below w.heap.size w v ∧ BK v wr.heap.size [.int .i64 s.a, .int .i64 s.b, .int .i64 s.c, .int .i64 s.d] ∧ v.cell? ⟨b, off + j * 4 + 2, none⟩ = some (.int .i64 t.c) ∧ v.cell? ⟨b, off + j * 4 + 3, none⟩ = some (.int .i64 t.d)) ⟨below_al hbb _, BK.new wr [.int .i64 s.a, .int .i64 s.b, .int .i64 s.c, .int .i64 s.d] _, cell_alloc x2 _, cell_alloc x3 _⟩ (fun V hS => ?_)
              clear hbb c0 c1 c2 c3 x2 x3
              obtain ⟨hbb, BP, x2, x3⟩ := hS
              have p0 := BP.c 0 rfl
              have p1 := BP.c 1 rfl
              have p2 := BP.c 2 rfl
              have p3 := BP.c 3 rfl
              generalize wr.heap.size = PP at *
              clear BP
              refine wp_region_noPanic ?_
              refine wp_region_held_drew (S := (Below V.heap.size V)) (by kernel_rfl) ((Below.refl _ _).drew) (fun hHeld => ?_)
              refine at_anyH (Below V.heap.size V) hHeld (fun wn0 hNew => ?_)
              clear hHeld
              have hHeld := hNew
              clear hNew
              refine wpAnyH_take (i := 0) (oi := _) (v := ?vn1) rfl (by kernel_rfl) (by kernel_rfl) (by kernel_rfl) (fun _ _ _ h => h) (Or.inl ⟨by kernel_rfl, ?hyn1⟩) hHeld ?restn1
              case hyn1 => (intro w hSw; have kp0 := keepC hSw p0; have kp1 := keepC hSw p1; have kp2 := keepC hSw p2; have kp3 := keepC hSw p3; have kx2 := keepC hSw x2; have kx3 := keepC hSw x3; go_simp; first | done | (with_reducible rfl))
              try simp only [Act.put, List.getElem_toArray, List.getElem_cons_succ, List.getElem_cons_zero, List.setIfInBounds_toArray, List.set_cons_zero, List.set_cons_succ]
              refine wpAnyH_ready (rs := [1]) (by kernel_rfl) (by simp) (AllReadyH.cons (o := _) rfl (fun K hK => ?_) AllReadyH.nil)
              go_simp
              refine (IS.out _).mono ?_
              rintro e wn2 ⟨rfl, hb3⟩
              go_wp2_with fail
              refine hK.out _ _ (keepB hHeld hb3) (fun hNew => ?_)
              clear hb3
              clear hHeld hK K
              have hHeld := hNew
              clear hNew
              try simp only [Act.put, List.getElem_toArray, List.getElem_cons_succ, List.getElem_cons_zero, List.setIfInBounds_toArray, List.set_cons_zero, List.set_cons_succ]
              refine wpAnyH_take (i := 2) (oi := _) (v := ?vn3) rfl (by kernel_rfl) (by kernel_rfl) (by kernel_rfl) (fun _ _ _ h => h) (Or.inl ⟨by kernel_rfl, ?hyn3⟩) hHeld ?restn3
              case hyn3 => (intro w hSw; go_simp; first | done | (with_reducible rfl))
              try simp only [Act.put, List.getElem_toArray, List.getElem_cons_succ, List.getElem_cons_zero, List.setIfInBounds_toArray, List.set_cons_zero, List.set_cons_succ]
              refine wpAnyH_take (i := 3) (oi := _) (v := ?vn4) rfl (by kernel_rfl) (by kernel_rfl) (by kernel_rfl) (fun _ _ _ h => h) (Or.inl ⟨by kernel_rfl, ?hyn4⟩) hHeld ?restn4
              case hyn4 => (intro w hSw; go_simp; first | done | (with_reducible rfl))
              try simp only [Act.put, List.getElem_toArray, List.getElem_cons_succ, List.getElem_cons_zero, List.setIfInBounds_toArray, List.set_cons_zero, List.set_cons_succ]
              refine wpAnyH_take (i := 4) (oi := _) (v := ?vn5) rfl (by kernel_rfl) (by kernel_rfl) (by kernel_rfl) (fun _ _ _ h => h) (Or.inl ⟨by kernel_rfl, ?hyn5⟩) hHeld ?restn5
              case hyn5 => (intro w hSw; go_simp; first | done | (with_reducible rfl))
              try simp only [Act.put, List.getElem_toArray, List.getElem_cons_succ, List.getElem_cons_zero, List.setIfInBounds_toArray, List.set_cons_zero, List.set_cons_succ]
              refine wpAnyH_take (i := 5) (oi := _) (v := ?vn6) rfl (by kernel_rfl) (by kernel_rfl) (by kernel_rfl) (fun _ _ _ h => h) (Or.inl ⟨by kernel_rfl, ?hyn6⟩) hHeld ?restn6
              case hyn6 => (intro w hSw; go_simp; first | done | (with_reducible rfl))
              try simp only [Act.put, List.getElem_toArray, List.getElem_cons_succ, List.getElem_cons_zero, List.setIfInBounds_toArray, List.set_cons_zero, List.set_cons_succ]
              refine wpAnyH_take (i := 6) (oi := _) (v := ?vn7) rfl (by kernel_rfl) (by kernel_rfl) (by kernel_rfl) (fun _ _ _ h => h) (Or.inl ⟨by kernel_rfl, ?hyn7⟩) hHeld ?restn7
              case hyn7 => (intro w hSw; go_simp; first | done | (with_reducible rfl))
              try simp only [Act.put, List.getElem_toArray, List.getElem_cons_succ, List.getElem_cons_zero, List.setIfInBounds_toArray, List.set_cons_zero, List.set_cons_succ]
              refine wpAnyH_take (i := 7) (oi := _) (v := ?vn8) rfl (by kernel_rfl) (by kernel_rfl) (by kernel_rfl) (fun _ _ _ h => h) (Or.inl ⟨by kernel_rfl, ?hyn8⟩) hHeld ?restn8
              case hyn8 => (intro w hSw; go_simp; first | done | (with_reducible rfl))
              try simp only [Act.put, List.getElem_toArray, List.getElem_cons_succ, List.getElem_cons_zero, List.setIfInBounds_toArray, List.set_cons_zero, List.set_cons_succ]
              refine wpAnyH_take (i := 8) (oi := _) (v := ?vn9) rfl (by kernel_rfl) (by kernel_rfl) (by kernel_rfl) (fun _ _ _ h => h) (Or.inl ⟨by kernel_rfl, ?hyn9⟩) hHeld ?restn9
              case hyn9 => (intro w hSw; go_simp; first | done | (with_reducible rfl))
              try simp only [Act.put, List.getElem_toArray, List.getElem_cons_succ, List.getElem_cons_zero, List.setIfInBounds_toArray, List.set_cons_zero, List.set_cons_succ]
              refine wpAnyH_take (i := 9) (oi := _) (v := ?vn10) rfl (by kernel_rfl) (by kernel_rfl) (by kernel_rfl) (fun _ _ _ h => h) (Or.inl ⟨by kernel_rfl, ?hyn10⟩) hHeld ?restn10
              case hyn10 => (intro w hSw; go_simp; first | done | (with_reducible rfl))
              try simp only [Act.put, List.getElem_toArray, List.getElem_cons_succ, List.getElem_cons_zero, List.setIfInBounds_toArray, List.set_cons_zero, List.set_cons_succ]
              refine wpAnyH_take (i := 10) (oi := _) (v := ?vn11) rfl (by kernel_rfl) (by kernel_rfl) (by kernel_rfl) (fun _ _ _ h => h) (Or.inl ⟨by kernel_rfl, ?hyn11⟩) hHeld ?restn11
              case hyn11 => (intro w hSw; go_simp; first | done | (with_reducible rfl))
              try simp only [Act.put, List.getElem_toArray, List.getElem_cons_succ, List.getElem_cons_zero, List.setIfInBounds_toArray, List.set_cons_zero, List.set_cons_succ]
              refine wpAnyH_take (i := 11) (oi := _) (v := ?vn12) rfl (by kernel_rfl) (by kernel_rfl) (by kernel_rfl) (fun _ _ _ h => h) (Or.inl ⟨by kernel_rfl, ?hyn12⟩) hHeld ?restn12
              case hyn12 => (intro w hSw; go_simp; first | done | (with_reducible rfl))
              try simp only [Act.put, List.getElem_toArray, List.getElem_cons_succ, List.getElem_cons_zero, List.setIfInBounds_toArray, List.set_cons_zero, List.set_cons_succ]
              refine wpAnyH_take (i := 12) (oi := _) (v := ?vn13) rfl (by kernel_rfl) (by kernel_rfl) (by kernel_rfl) (fun _ _ _ h => h) (Or.inl ⟨by kernel_rfl, ?hyn13⟩) hHeld ?restn13
              case hyn13 => (intro w hSw; have kp0 := keepC hSw p0; have kp1 := keepC hSw p1; have kp2 := keepC hSw p2; have kp3 := keepC hSw p3; have kx2 := keepC hSw x2; have kx3 := keepC hSw x3; go_simp; first | done | (with_reducible rfl))
              try simp only [Act.put, List.getElem_toArray, List.getElem_cons_succ, List.getElem_cons_zero, List.setIfInBounds_toArray, List.set_cons_zero, List.set_cons_succ]
              refine wpAnyH_take (i := 13) (oi := _) (v := ?vn14) rfl (by kernel_rfl) (by kernel_rfl) (by kernel_rfl) (fun _ _ _ h => h) (Or.inl ⟨by kernel_rfl, ?hyn14⟩) hHeld ?restn14
              case hyn14 => (intro w hSw; go_simp; first | done | (with_reducible rfl))
              try simp only [Act.put, List.getElem_toArray, List.getElem_cons_succ, List.getElem_cons_zero, List.setIfInBounds_toArray, List.set_cons_zero, List.set_cons_succ]
              refine wpAnyH_take (i := 14) (oi := _) (v := ?vn15) rfl (by kernel_rfl) (by kernel_rfl) (by kernel_rfl) (fun _ _ _ h => h) (Or.inl ⟨by kernel_rfl, ?hyn15⟩) hHeld ?restn15
              case hyn15 => (intro w hSw; have kp0 := keepC hSw p0; have kp1 := keepC hSw p1; have kp2 := keepC hSw p2; have kp3 := keepC hSw p3; have kx2 := keepC hSw x2; have kx3 := keepC hSw x3; go_simp; first | done | (with_reducible rfl))
              try simp only [Act.put, List.getElem_toArray, List.getElem_cons_succ, List.getElem_cons_zero, List.setIfInBounds_toArray, List.set_cons_zero, List.set_cons_succ]
              refine wpAnyH_ready (rs := [15]) (by kernel_rfl) (by simp) (AllReadyH.cons (o := _) rfl (fun K hK => ?_) AllReadyH.nil)
              go_simp
              refine (LS.out _).mono ?_
              rintro e wn16 ⟨rfl, hb3⟩
              go_wp2_with fail
              refine hK.out _ _ (keepB hHeld hb3) (fun hNew => ?_)
              clear hb3
              clear hHeld hK K
              have hHeld := hNew
              clear hNew
              try simp only [Act.put, List.getElem_toArray, List.getElem_cons_succ, List.getElem_cons_zero, List.setIfInBounds_toArray, List.set_cons_zero, List.set_cons_succ]
              refine wpAnyH_take (i := 16) (oi := _) (v := ?vn17) rfl (by kernel_rfl) (by kernel_rfl) (by kernel_rfl) (fun _ _ _ h => h) (Or.inl ⟨by kernel_rfl, ?hyn17⟩) hHeld ?restn17
              case hyn17 => (intro w hSw; go_simp; first | done | (with_reducible rfl))
              try simp only [Act.put, List.getElem_toArray, List.getElem_cons_succ, List.getElem_cons_zero, List.setIfInBounds_toArray, List.set_cons_zero, List.set_cons_succ]
              refine wpAnyH_take (i := 17) (oi := _) (v := ?vn18) rfl (by kernel_rfl) (by kernel_rfl) (by kernel_rfl) (fun _ _ _ h => h) (Or.inl ⟨by kernel_rfl, ?hyn18⟩) hHeld ?restn18
              case hyn18 => (intro w hSw; go_simp; first | done | (with_reducible rfl))
              try simp only [Act.put, List.getElem_toArray, List.getElem_cons_succ, List.getElem_cons_zero, List.setIfInBounds_toArray, List.set_cons_zero, List.set_cons_succ]
              refine wpAnyH_take (i := 18) (oi := _) (v := ?vn19) rfl (by kernel_rfl) (by kernel_rfl) (by kernel_rfl) (fun _ _ _ h => h) (Or.inl ⟨by kernel_rfl, ?hyn19⟩) hHeld ?restn19
              case hyn19 => (intro w hSw; go_simp; first | done | (with_reducible rfl))
              try simp only [Act.put, List.getElem_toArray, List.getElem_cons_succ, List.getElem_cons_zero, List.setIfInBounds_toArray, List.set_cons_zero, List.set_cons_succ]
              refine wpAnyH_done (by kernel_rfl) ?_ _
              refine NoPanic.normal ?_
              replace hbb := keepB hbb hHeld
              go_wp2_with fail
              go_roundw
              case rel => exact ⟨j + 1 + 1, by omega, by go_num, fun j hj => (Nat.lt_succ_iff_lt_or_eq.1 hj).elim (HOK.out j) (fun e => e ▸ EB.out), hbb⟩
              case measure => simp [intOf]; omega
            · have hle : Pc.lessB t.c t.d s.a s.b = false := by simpa using hle
              rw [hle] at ls hbd
              have LS := Lib.hid ls
              have EB := Lib.hid (Pc.chk_bad hm hlt hbd)
              clear ls hbd
              rw [hsp] at is
              have IS := Lib.hid is
              clear is
              go_upto_region 6 with fail
              refine at_worldQ (fun v => Below w.heap.size w v ∧ BK v wr.heap.size [.int .i64 s.a, .int .i64 s.b, .int .i64 s.c, .int .i64 s.d] ∧ v.cell? ⟨b, off + j * 4 + 2, none⟩ = some (.int .i64 t.c) ∧ v.cell? ⟨b, off + j * 4 + 3, none⟩ = some (.int .i64 t.d)) ⟨below_al hbb _, BK.new wr [.int .i64 s.a, .int .i64 s.b, .int .i64 s.c, .int .i64 s.d] _, cell_alloc x2 _, cell_alloc x3 _⟩ (fun V hS => ?_)
              clear hbb c0 c1 c2 c3 x2 x3
              obtain ⟨hbb, BP, x2, x3⟩ := hS
              have p0 := BP.c 0 rfl
              have p1 := BP.c 1 rfl
              have p2 := BP.c 2 rfl
              have p3 := BP.c 3 rfl
              generalize wr.heap.size = PP at *
              clear BP
              refine wp_region_noPanic ?_
              refine wp_region_held_drew (S := (Below V.heap.size V)) (by kernel_rfl) ((Below.refl _ _).drew) (fun hHeld => ?_)
              refine at_anyH (Below V.heap.size V) hHeld (fun wm0 hNew => ?_)
              clear hHeld
              have hHeld := hNew
              clear hNew
              refine wpAnyH_take (i := 0) (oi := _) (v := ?vm1) rfl (by kernel_rfl) (by kernel_rfl) (by kernel_rfl) (fun _ _ _ h => h) (Or.inl ⟨by kernel_rfl, ?hym1⟩) hHeld ?restm1
              case hym1 => (intro w hSw; have kp0 := keepC hSw p0; have kp1 := keepC hSw p1; have kp2 := keepC hSw p2; have kp3 := keepC hSw p3; have kx2 := keepC hSw x2; have kx3 := keepC hSw x3; go_simp; first | done | (with_reducible rfl))
              try simp only [Act.put, List.getElem_toArray, List.getElem_cons_succ, List.getElem_cons_zero, List.setIfInBounds_toArray, List.set_cons_zero, List.set_cons_succ]
              refine wpAnyH_ready (rs := [1]) (by kernel_rfl) (by simp) (AllReadyH.cons (o := _) rfl (fun K hK => ?_) AllReadyH.nil)
              go_simp
              refine (IS.out _).mono ?_
              rintro e wm2 ⟨rfl, hb3⟩
              go_wp2_with fail
              refine hK.out _ _ (keepB hHeld hb3) (fun hNew => ?_)
              clear hb3
              clear hHeld hK K
              have hHeld := hNew
              clear hNew
              try simp only [Act.put, List.getElem_toArray, List.getElem_cons_succ, List.getElem_cons_zero, List.setIfInBounds_toArray, List.set_cons_zero, List.set_cons_succ]
              refine wpAnyH_take (i := 2) (oi := _) (v := ?vm3) rfl (by kernel_rfl) (by kernel_rfl) (by kernel_rfl) (fun _ _ _ h => h) (Or.inl ⟨by kernel_rfl, ?hym3⟩) hHeld ?restm3
              case hym3 => (intro w hSw; go_simp; first | done | (with_reducible rfl))
              try simp only [Act.put, List.getElem_toArray, List.getElem_cons_succ, List.getElem_cons_zero, List.setIfInBounds_toArray, List.set_cons_zero, List.set_cons_succ]
              refine wpAnyH_take (i := 3) (oi := _) (v := ?vm4) rfl (by kernel_rfl) (by kernel_rfl) (by kernel_rfl) (fun _ _ _ h => h) (Or.inl ⟨by kernel_rfl, ?hym4⟩) hHeld ?restm4
              case hym4 => (intro w hSw; go_simp; first | done | (with_reducible rfl))
              try simp only [Act.put, List.getElem_toArray, List.getElem_cons_succ, List.getElem_cons_zero, List.setIfInBounds_toArray, List.set_cons_zero, List.set_cons_succ]
              refine wpAnyH_take (i := 4) (oi := _) (v := ?vm5) rfl (by kernel_rfl) (by kernel_rfl) (by kernel_rfl) (fun _ _ _ h => h) (Or.inl ⟨by kernel_rfl, ?hym5⟩) hHeld ?restm5
              case hym5 => (intro w hSw; go_simp; first | done | (with_reducible rfl))
              try simp only [Act.put, List.getElem_toArray, List.getElem_cons_succ, List.getElem_cons_zero, List.setIfInBounds_toArray, List.set_cons_zero, List.set_cons_succ]
              refine wpAnyH_take (i := 5) (oi := _) (v := ?vm6) rfl (by kernel_rfl) (by kernel_rfl) (by kernel_rfl) (fun _ _ _ h => h) (Or.inl ⟨by kernel_rfl, ?hym6⟩) hHeld ?restm6
              case hym6 => (intro w hSw; go_simp; first | done | (with_reducible rfl))
              try simp only [Act.put, List.getElem_toArray, List.getElem_cons_succ, List.getElem_cons_zero, List.setIfInBounds_toArray, List.set_cons_zero, List.set_cons_succ]
              refine wpAnyH_take (i := 6) (oi := _) (v := ?vm7) rfl (by kernel_rfl) (by kernel_rfl) (by kernel_rfl) (fun _ _ _ h => h) (Or.inl ⟨by kernel_rfl, ?hym7⟩) hHeld ?restm7
              case hym7 => (intro w hSw; go_simp; first | done | (with_reducible rfl))
              try simp only [Act.put, List.getElem_toArray, List.getElem_cons_succ, List.getElem_cons_zero, List.setIfInBounds_toArray, List.set_cons_zero, List.set_cons_succ]
              refine wpAnyH_take (i := 7) (oi := _) (v := ?vm8) rfl (by kernel_rfl) (by kernel_rfl) (by kernel_rfl) (fun _ _ _ h => h) (Or.inl ⟨by kernel_rfl, ?hym8⟩) hHeld ?restm8
              case hym8 => (intro w hSw; go_simp; first | done | (with_reducible rfl))
              try simp only [Act.put, List.getElem_toArray, List.getElem_cons_succ, List.getElem_cons_zero, List.setIfInBounds_toArray, List.set_cons_zero, List.set_cons_succ]
              refine wpAnyH_take (i := 8) (oi := _) (v := ?vm9) rfl (by kernel_rfl) (by kernel_rfl) (by kernel_rfl) (fun _ _ _ h => h) (Or.inl ⟨by kernel_rfl, ?hym9⟩) hHeld ?restm9
              case hym9 => (intro w hSw; go_simp; first | done | (with_reducible rfl))
              try simp only [Act.put, List.getElem_toArray, List.getElem_cons_succ, List.getElem_cons_zero, List.setIfInBounds_toArray, List.set_cons_zero, List.set_cons_succ]
              refine wpAnyH_take (i := 9) (oi := _) (v := ?vm10) rfl (by kernel_rfl) (by kernel_rfl) (by kernel_rfl) (fun _ _ _ h => h) (Or.inl ⟨by kernel_rfl, ?hym10⟩) hHeld ?restm10
              case hym10 => (intro w hSw; go_simp; first | done | (with_reducible rfl))
              try simp only [Act.put, List.getElem_toArray, List.getElem_cons_succ, List.getElem_cons_zero, List.setIfInBounds_toArray, List.set_cons_zero, List.set_cons_succ]
              refine wpAnyH_take (i := 10) (oi := _) (v := ?vm11) rfl (by kernel_rfl) (by kernel_rfl) (by kernel_rfl) (fun _ _ _ h => h) (Or.inl ⟨by kernel_rfl, ?hym11⟩) hHeld ?restm11
              case hym11 => (intro w hSw; go_simp; first | done | (with_reducible rfl))
              try simp only [Act.put, List.getElem_toArray, List.getElem_cons_succ, List.getElem_cons_zero, List.setIfInBounds_toArray, List.set_cons_zero, List.set_cons_succ]
              refine wpAnyH_take (i := 11) (oi := _) (v := ?vm12) rfl (by kernel_rfl) (by kernel_rfl) (by kernel_rfl) (fun _ _ _ h => h) (Or.inl ⟨by kernel_rfl, ?hym12⟩) hHeld ?restm12
              case hym12 => (intro w hSw; go_simp; first | done | (with_reducible rfl))
              try simp only [Act.put, List.getElem_toArray, List.getElem_cons_succ, List.getElem_cons_zero, List.setIfInBounds_toArray, List.set_cons_zero, List.set_cons_succ]
              refine wpAnyH_take (i := 12) (oi := _) (v := ?vm13) rfl (by kernel_rfl) (by kernel_rfl) (by kernel_rfl) (fun _ _ _ h => h) (Or.inl ⟨by kernel_rfl, ?hym13⟩) hHeld ?restm13
              case hym13 => (intro w hSw; have kp0 := keepC hSw p0; have kp1 := keepC hSw p1; have kp2 := keepC hSw p2; have kp3 := keepC hSw p3; have kx2 := keepC hSw x2; have kx3 := keepC hSw x3; go_simp; first | done | (with_reducible rfl))
              try simp only [Act.put, List.getElem_toArray, List.getElem_cons_succ, List.getElem_cons_zero, List.setIfInBounds_toArray, List.set_cons_zero, List.set_cons_succ]
              refine wpAnyH_take (i := 13) (oi := _) (v := ?vm14) rfl (by kernel_rfl) (by kernel_rfl) (by kernel_rfl) (fun _ _ _ h => h) (Or.inl ⟨by kernel_rfl, ?hym14⟩) hHeld ?restm14
              case hym14 => (intro w hSw; go_simp; first | done | (with_reducible rfl))
              try simp only [Act.put, List.getElem_toArray, List.getElem_cons_succ, List.getElem_cons_zero, List.setIfInBounds_toArray, List.set_cons_zero, List.set_cons_succ]
              refine wpAnyH_take (i := 14) (oi := _) (v := ?vm15) rfl (by kernel_rfl) (by kernel_rfl) (by kernel_rfl) (fun _ _ _ h => h) (Or.inl ⟨by kernel_rfl, ?hym15⟩) hHeld ?restm15
              case hym15 => (intro w hSw; have kp0 := keepC hSw p0; have kp1 := keepC hSw p1; have kp2 := keepC hSw p2; have kp3 := keepC hSw p3; have kx2 := keepC hSw x2; have kx3 := keepC hSw x3; go_simp; first | done | (with_reducible rfl))
              try simp only [Act.put, List.getElem_toArray, List.getElem_cons_succ, List.getElem_cons_zero, List.setIfInBounds_toArray, List.set_cons_zero, List.set_cons_succ]
              refine wpAnyH_ready (rs := [15]) (by kernel_rfl) (by simp) (AllReadyH.cons (o := _) rfl (fun K hK => ?_) AllReadyH.nil)
              go_simp
              refine (LS.out _).mono ?_
              rintro e wm16 ⟨rfl, hb3⟩
              go_wp2_with fail
              refine hK.out _ _ (keepB hHeld hb3) (fun hNew => ?_)
              clear hb3
              clear hHeld hK K
              have hHeld := hNew
              clear hNew
              try simp only [Act.put, List.getElem_toArray, List.getElem_cons_succ, List.getElem_cons_zero, List.setIfInBounds_toArray, List.set_cons_zero, List.set_cons_succ]
              refine wpAnyH_take (i := 16) (oi := _) (v := ?vm17) rfl (by kernel_rfl) (by kernel_rfl) (by kernel_rfl) (fun _ _ _ h => h) (Or.inl ⟨by kernel_rfl, ?hym17⟩) hHeld ?restm17
              case hym17 => (intro w hSw; go_simp; first | done | (with_reducible rfl))
              try simp only [Act.put, List.getElem_toArray, List.getElem_cons_succ, List.getElem_cons_zero, List.setIfInBounds_toArray, List.set_cons_zero, List.set_cons_succ]
              refine wpAnyH_take (i := 17) (oi := _) (v := ?vm18) rfl (by kernel_rfl) (by kernel_rfl) (by kernel_rfl) (fun _ _ _ h => h) (Or.inl ⟨by kernel_rfl, ?hym18⟩) hHeld ?restm18
              case hym18 => (intro w hSw; go_simp; first | done | (with_reducible rfl))
              try simp only [Act.put, List.getElem_toArray, List.getElem_cons_succ, List.getElem_cons_zero, List.setIfInBounds_toArray, List.set_cons_zero, List.set_cons_succ]
              refine wpAnyH_take (i := 18) (oi := _) (v := ?vm19) rfl (by kernel_rfl) (by kernel_rfl) (by kernel_rfl) (fun _ _ _ h => h) (Or.inl ⟨by kernel_rfl, ?hym19⟩) hHeld ?restm19
              case hym19 => (intro w hSw; go_simp; first | done | (with_reducible rfl))
              try simp only [Act.put, List.getElem_toArray, List.getElem_cons_succ, List.getElem_cons_zero, List.setIfInBounds_toArray, List.set_cons_zero, List.set_cons_succ]
              refine wpAnyH_done (by kernel_rfl) ?_ _
              refine NoPanic.normal ?_
              go_wp2_with fail
              go_ret
              exact ⟨by rw [EB.out]; rfl, keepB hbb hHeld⟩
        · have hsp : Pc.spanB s = false := by simpa using hsp
          have EB := Lib.hid (Pc.chk_bad hm hlt (show Pc.bad xs k = true by unfold Pc.bad; rw [hs, hsp]; rfl))
          rw [hsp] at is
          have IS := Lib.hid is
          clear is
          go_upto_region 6 with fail
          refine at_worldQ (fun v => Below w.heap.size w v ∧ BK v wr.heap.size [.int .i64 s.a, .int .i64 s.b, .int .i64 s.c, .int .i64 s.d]) ⟨below_al hbb _, BK.new wr [.int .i64 s.a, .int .i64 s.b, .int .i64 s.c, .int .i64 s.d] _⟩ (fun V hS => ?_)
          clear hbb c0 c1 c2 c3
          obtain ⟨hbb, BP⟩ := hS
          have p0 := BP.c 0 rfl
          have p1 := BP.c 1 rfl
          have p2 := BP.c 2 rfl
          have p3 := BP.c 3 rfl
          generalize wr.heap.size = PP at *
          clear BP
          refine wp_region_noPanic ?_
          refine wp_region_held_drew (S := (Below V.heap.size V)) (by kernel_rfl) ((Below.refl _ _).drew) (fun hHeld => ?_)
          refine at_anyH (Below V.heap.size V) hHeld (fun wb0 hNew => ?_)
          clear hHeld
          have hHeld := hNew
          clear hNew
          refine wpAnyH_take (i := 0) (oi := _) (v := ?vb1) rfl (by kernel_rfl) (by kernel_rfl) (by kernel_rfl) (fun _ _ _ h => h) (Or.inl ⟨by kernel_rfl, ?hyb1⟩) hHeld ?restb1
          case hyb1 => (intro w hSw; have kp0 := keepC hSw p0; have kp1 := keepC hSw p1; have kp2 := keepC hSw p2; have kp3 := keepC hSw p3; go_simp; first | done | (with_reducible rfl))
          try simp only [Act.put, List.getElem_toArray, List.getElem_cons_succ, List.getElem_cons_zero, List.setIfInBounds_toArray, List.set_cons_zero, List.set_cons_succ]
          refine wpAnyH_ready (rs := [1]) (by kernel_rfl) (by simp) (AllReadyH.cons (o := _) rfl (fun K hK => ?_) AllReadyH.nil)
          go_simp
          refine (IS.out _).mono ?_
          rintro e wb2 ⟨rfl, hb3⟩
          go_wp2_with fail
          refine hK.out _ _ (keepB hHeld hb3) (fun hNew => ?_)
          clear hb3
          clear hHeld hK K
          have hHeld := hNew
          clear hNew
          try simp only [Act.put, List.getElem_toArray, List.getElem_cons_succ, List.getElem_cons_zero, List.setIfInBounds_toArray, List.set_cons_zero, List.set_cons_succ]
          refine wpAnyH_take (i := 2) (oi := _) (v := ?vb3) rfl (by kernel_rfl) (by kernel_rfl) (by kernel_rfl) (fun _ _ _ h => h) (Or.inl ⟨by kernel_rfl, ?hyb3⟩) hHeld ?restb3
          case hyb3 => (intro w hSw; go_simp; first | done | (with_reducible rfl))
          try simp only [Act.put, List.getElem_toArray, List.getElem_cons_succ, List.getElem_cons_zero, List.setIfInBounds_toArray, List.set_cons_zero, List.set_cons_succ]
          refine wpAnyH_take (i := 3) (oi := _) (v := ?vb4) rfl (by kernel_rfl) (by kernel_rfl) (by kernel_rfl) (fun _ _ _ h => h) (Or.inl ⟨by kernel_rfl, ?hyb4⟩) hHeld ?restb4
          case hyb4 => (intro w hSw; go_simp; first | done | (with_reducible rfl))
          try simp only [Act.put, List.getElem_toArray, List.getElem_cons_succ, List.getElem_cons_zero, List.setIfInBounds_toArray, List.set_cons_zero, List.set_cons_succ]
          refine wpAnyH_take (i := 4) (oi := _) (v := undef) rfl (by kernel_rfl) (by kernel_rfl) (by kernel_rfl) (fun _ _ _ h => h) (Or.inr ⟨by kernel_rfl, rfl⟩) hHeld ?_
          try simp only [Act.put, List.getElem_toArray, List.getElem_cons_succ, List.getElem_cons_zero, List.setIfInBounds_toArray, List.set_cons_zero, List.set_cons_succ]
          refine wpAnyH_take (i := 5) (oi := _) (v := undef) rfl (by kernel_rfl) (by kernel_rfl) (by kernel_rfl) (fun _ _ _ h => h) (Or.inr ⟨by kernel_rfl, rfl⟩) hHeld ?_
          try simp only [Act.put, List.getElem_toArray, List.getElem_cons_succ, List.getElem_cons_zero, List.setIfInBounds_toArray, List.set_cons_zero, List.set_cons_succ]
          refine wpAnyH_take (i := 6) (oi := _) (v := undef) rfl (by kernel_rfl) (by kernel_rfl) (by kernel_rfl) (fun _ _ _ h => h) (Or.inr ⟨by kernel_rfl, rfl⟩) hHeld ?_
          try simp only [Act.put, List.getElem_toArray, List.getElem_cons_succ, List.getElem_cons_zero, List.setIfInBounds_toArray, List.set_cons_zero, List.set_cons_succ]
          refine wpAnyH_take (i := 7) (oi := _) (v := undef) rfl (by kernel_rfl) (by kernel_rfl) (by kernel_rfl) (fun _ _ _ h => h) (Or.inr ⟨by kernel_rfl, rfl⟩) hHeld ?_
          try simp only [Act.put, List.getElem_toArray, List.getElem_cons_succ, List.getElem_cons_zero, List.setIfInBounds_toArray, List.set_cons_zero, List.set_cons_succ]
          refine wpAnyH_take (i := 8) (oi := _) (v := undef) rfl (by kernel_rfl) (by kernel_rfl) (by kernel_rfl) (fun _ _ _ h => h) (Or.inr ⟨by kernel_rfl, rfl⟩) hHeld ?_
          try simp only [Act.put, List.getElem_toArray, List.getElem_cons_succ, List.getElem_cons_zero, List.setIfInBounds_toArray, List.set_cons_zero, List.set_cons_succ]
          refine wpAnyH_take (i := 9) (oi := _) (v := undef) rfl (by kernel_rfl) (by kernel_rfl) (by kernel_rfl) (fun _ _ _ h => h) (Or.inr ⟨by kernel_rfl, rfl⟩) hHeld ?_
          try simp only [Act.put, List.getElem_toArray, List.getElem_cons_succ, List.getElem_cons_zero, List.setIfInBounds_toArray, List.set_cons_zero, List.set_cons_succ]
          refine wpAnyH_take (i := 10) (oi := _) (v := undef) rfl (by kernel_rfl) (by kernel_rfl) (by kernel_rfl) (fun _ _ _ h => h) (Or.inr ⟨by kernel_rfl, rfl⟩) hHeld ?_
          try simp only [Act.put, List.getElem_toArray, List.getElem_cons_succ, List.getElem_cons_zero, List.setIfInBounds_toArray, List.set_cons_zero, List.set_cons_succ]
          refine wpAnyH_take (i := 11) (oi := _) (v := undef) rfl (by kernel_rfl) (by kernel_rfl) (by kernel_rfl) (fun _ _ _ h => h) (Or.inr ⟨by kernel_rfl, rfl⟩) hHeld ?_
          try simp only [Act.put, List.getElem_toArray, List.getElem_cons_succ, List.getElem_cons_zero, List.setIfInBounds_toArray, List.set_cons_zero, List.set_cons_succ]
          refine wpAnyH_take (i := 12) (oi := _) (v := undef) rfl (by kernel_rfl) (by kernel_rfl) (by kernel_rfl) (fun _ _ _ h => h) (Or.inr ⟨by kernel_rfl, rfl⟩) hHeld ?_
          try simp only [Act.put, List.getElem_toArray, List.getElem_cons_succ, List.getElem_cons_zero, List.setIfInBounds_toArray, List.set_cons_zero, List.set_cons_succ]
          refine wpAnyH_take (i := 13) (oi := _) (v := undef) rfl (by kernel_rfl) (by kernel_rfl) (by kernel_rfl) (fun _ _ _ h => h) (Or.inr ⟨by kernel_rfl, rfl⟩) hHeld ?_
          try simp only [Act.put, List.getElem_toArray, List.getElem_cons_succ, List.getElem_cons_zero, List.setIfInBounds_toArray, List.set_cons_zero, List.set_cons_succ]
          refine wpAnyH_take (i := 14) (oi := _) (v := undef) rfl (by kernel_rfl) (by kernel_rfl) (by kernel_rfl) (fun _ _ _ h => h) (Or.inr ⟨by kernel_rfl, rfl⟩) hHeld ?_
          try simp only [Act.put, List.getElem_toArray, List.getElem_cons_succ, List.getElem_cons_zero, List.setIfInBounds_toArray, List.set_cons_zero, List.set_cons_succ]
          refine wpAnyH_take (i := 15) (oi := _) (v := undef) rfl (by kernel_rfl) (by kernel_rfl) (by kernel_rfl) (fun _ _ _ h => h) (Or.inr ⟨by kernel_rfl, rfl⟩) hHeld ?_
          try simp only [Act.put, List.getElem_toArray, List.getElem_cons_succ, List.getElem_cons_zero, List.setIfInBounds_toArray, List.set_cons_zero, List.set_cons_succ]
          refine wpAnyH_take (i := 16) (oi := _) (v := undef) rfl (by kernel_rfl) (by kernel_rfl) (by kernel_rfl) (fun _ _ _ h => h) (Or.inr ⟨by kernel_rfl, rfl⟩) hHeld ?_
          try simp only [Act.put, List.getElem_toArray, List.getElem_cons_succ, List.getElem_cons_zero, List.setIfInBounds_toArray, List.set_cons_zero, List.set_cons_succ]
          refine wpAnyH_take (i := 17) (oi := _) (v := undef) rfl (by kernel_rfl) (by kernel_rfl) (by kernel_rfl) (fun _ _ _ h => h) (Or.inr ⟨by kernel_rfl, rfl⟩) hHeld ?_
          try simp only [Act.put, List.getElem_toArray, List.getElem_cons_succ, List.getElem_cons_zero, List.setIfInBounds_toArray, List.set_cons_zero, List.set_cons_succ]
          refine wpAnyH_take (i := 18) (oi := _) (v := ?vb19) rfl (by kernel_rfl) (by kernel_rfl) (by kernel_rfl) (fun _ _ _ h => h) (Or.inl ⟨by kernel_rfl, ?hyb19⟩) hHeld ?restb19
          case hyb19 => (intro w hSw; go_simp; first | done | (with_reducible rfl))
          try simp only [Act.put, List.getElem_toArray, List.getElem_cons_succ, List.getElem_cons_zero, List.setIfInBounds_toArray, List.set_cons_zero, List.set_cons_succ]
          refine wpAnyH_done (by kernel_rfl) ?_ _
          refine NoPanic.normal ?_
          go_wp2_with fail
          go_ret
          exact ⟨by rw [EB.out]; rfl, keepB hbb hHeld⟩
      · obtain rfl : k = xs.length := by omega
        have EB := Lib.hid (Pc.chk_ok hm HOK.out)
        clear HA HC QS HOK
        go_wp2_with fail
        go_ret
        exact ⟨by rw [EB.out]; rfl, hbb⟩

theorem Pc.lessB_ok {n d m c : Int} (h : Rp.Ok n d) (k : Rp.Ok m c) : Pc.lessB n d m c = decide (Rp.q n d < Rp.q m c) := by
  unfold Pc.lessB
  rw [decide_eq_decide]
  exact ⟨fun x => x.2.2, fun x => ⟨h, k, x⟩⟩
theorem Pc.lessB_not {n d m c : Int} (h : Rp.both n d m c = 8) : Pc.lessB n d m c = false := by
  refine decide_eq_false fun k => ?_
  unfold Rp.both Rp.chk at h
  rw [if_pos k.1, if_pos k.2.1] at h
  cases h

end Go.Proofs.Ytnnpmegknlgkoaa
