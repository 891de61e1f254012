/- Check of package piece. Package piece's set operations. -/
import Derived.Test.YtomokdepndclpaaQa
import Derived.Test.YtomokdepndclpaaTree
import Derived.Test.YtomokdepndclpaaLess
import Derived.Test.YtomokdepndclpaaQc
import Derived.Test.YtomokdepndclpaaQb
namespace Go.Proofs.Ytomokdepndclpaa
open Go.RowKit

set_option linter.unusedSimpArgs false in
set_option maxHeartbeats 4000000 in
set_option maxRecDepth 100000 in
theorem pChk_any (A : Option Addr) (cap : Nat) (xs : List Raw) (w : World) (h : IsS w A xs) :
    Calls Try.prog 44 #[.slice A xs.length cap] w fun e w' => e = .returned (.int .i64 (Pc.chk xs)) ∧ Below w.heap.size w w' := by
  by_cases hm : 60 < xs.length
  · rw [Pc.chk_many hm]
    have hg : decide ((60 : Int) < (xs.length : Int)) = true := decide_eq_true (by omega)
    clear h
    go_enter Try.func44, Try.ntmps44
    go_wp2
    go_ret
    exact ⟨rfl, Below.refl _ _⟩
  · have hg : decide ((60 : Int) < (xs.length : Int)) = false := decide_eq_false (by omega)
    obtain ⟨hI, hq, _⟩ := id h
    have QS := Lib.hid h.bd
    obtain ⟨b, off, hA, hc⟩ : ∃ b off, (0 < xs.length → A = some ⟨b, off, none⟩) ∧ ∀ i, i < xs.length → w.cell? ⟨b, off + i * 4, none⟩ = some (.int .i64 (Pc.at_ xs i).a) ∧ w.cell? ⟨b, off + i * 4 + 1, none⟩ = some (.int .i64 (Pc.at_ xs i).b) ∧ w.cell? ⟨b, off + i * 4 + 2, none⟩ = some (.int .i64 (Pc.at_ xs i).c) ∧ w.cell? ⟨b, off + i * 4 + 3, none⟩ = some (.int .i64 (Pc.at_ xs i).d) := by
      by_cases h0 : 0 < xs.length
      · obtain ⟨b, off, e, k⟩ := hI h0
        exact ⟨b, off, fun _ => e, k⟩
      · exact ⟨0, 0, fun k => absurd k h0, fun i hi => absurd hi (by omega)⟩
    have HC := Lib.hid hc
    have HA := Lib.hid hA
    clear h hI hq hc hA
    go_enter Try.func44, Try.ntmps44
    go_wp2_with fail
    go_loopw [3, 4, 10] (fun _ _ i v => ∃ k : Nat, k ≤ xs.length ∧ i = .int .i64 k ∧ (∀ j, j < k → Pc.bad xs j = false) ∧ Below w.heap.size w v) (fun _ _ i _ => xs.length - (intOf i).toNat)
    case atStart => exact ⟨0, Nat.zero_le _, rfl, fun j hj => absurd hj (Nat.not_lt_zero _), Below.refl _ _⟩
    case round =>
      obtain ⟨k, hk, rfl, hok, hbb⟩ := hrel
      have HOK := Lib.hid hok
      clear hok
      by_cases hlt : k < xs.length
      · have hA' := HA.out (by omega)
        subst hA'
        obtain ⟨s, hs⟩ : ∃ s, Pc.at_ xs k = s := ⟨_, rfl⟩
        have hsb := QS.out k
        rw [hs] at hsb
        have c0 := keepC hbb (HC.out k hlt).1
        have c1 := keepC hbb (HC.out k hlt).2.1
        have c2 := keepC hbb (HC.out k hlt).2.2.1
        have c3 := keepC hbb (HC.out k hlt).2.2.2
        rw [hs] at c0 c1 c2 c3
        have is := fun v => isSpan_any s v hsb
        by_cases hsp : Pc.spanB s = true
        · rcases k with _ | j
          · have EB := Lib.hid (show Pc.bad xs 0 = false by unfold Pc.bad; rw [hs, hsp]; rfl)
            have g1 : decide ((0 : Int) < ((0 : Nat) : Int)) = false := rfl
            rw [hsp] at is
            have IS := Lib.hid is
            clear is
            simp only [Nat.zero_mul, Nat.add_zero] at c0 c1 c2 c3
            go_upto_region 6 with fail
            refine at_worldQ (fun v => Below w.heap.size w v ∧ BK v wr.heap.size [.int .i64 s.a, .int .i64 s.b, .int .i64 s.c, .int .i64 s.d]) ⟨below_al hbb _, BK.new wr [.int .i64 s.a, .int .i64 s.b, .int .i64 s.c, .int .i64 s.d] _⟩ (fun V hS => ?_)
            clear hbb c0 c1 c2 c3
            obtain ⟨hbb, BP⟩ := hS
            have p0 := BP.c 0 rfl
            have p1 := BP.c 1 rfl
            have p2 := BP.c 2 rfl
            have p3 := BP.c 3 rfl
            generalize wr.heap.size = PP at *
            clear BP
            refine wp_region_noPanic ?_
            refine wp_region_held_drew (S := (Below V.heap.size V)) (by kernel_rfl) ((Below.refl _ _).drew) (fun hHeld => ?_)
            refine at_anyH (Below V.heap.size V) hHeld (fun wz0 hNew => ?_)
            clear hHeld
            have hHeld := hNew
            clear hNew
            refine wpAnyH_take (i := 0) (oi := _) (v := ?vz1) rfl (by kernel_rfl) (by kernel_rfl) (by kernel_rfl) (fun _ _ _ h => h) (Or.inl ⟨by kernel_rfl, ?hyz1⟩) hHeld ?restz1
            case hyz1 => (intro w hSw; have kp0 := keepC hSw p0; have kp1 := keepC hSw p1; have kp2 := keepC hSw p2; have kp3 := keepC hSw p3; go_simp; first | done | (with_reducible rfl))
            try simp only [Act.put, List.getElem_toArray, List.getElem_cons_succ, List.getElem_cons_zero, List.setIfInBounds_toArray, List.set_cons_zero, List.set_cons_succ]
            refine wpAnyH_ready (rs := [1]) (by kernel_rfl) (by simp) (AllReadyH.cons (o := _) rfl (fun K hK => ?_) AllReadyH.nil)
            go_simp
            refine (IS.out _).mono ?_
            rintro e wz2 ⟨rfl, hb3⟩
            go_wp2_with fail
            refine hK.out _ _ (keepB hHeld hb3) (fun hNew => ?_)
            clear hb3
            clear hHeld hK K
            have hHeld := hNew
            clear hNew
            try simp only [Act.put, List.getElem_toArray, List.getElem_cons_succ, List.getElem_cons_zero, List.setIfInBounds_toArray, List.set_cons_zero, List.set_cons_succ]
            refine wpAnyH_take (i := 2) (oi := _) (v := ?vz3) rfl (by kernel_rfl) (by kernel_rfl) (by kernel_rfl) (fun _ _ _ h => h) (Or.inl ⟨by kernel_rfl, ?hyz3⟩) hHeld ?restz3
            case hyz3 => (intro w hSw; go_simp; first | done | (with_reducible rfl))
            try simp only [Act.put, List.getElem_toArray, List.getElem_cons_succ, List.getElem_cons_zero, List.setIfInBounds_toArray, List.set_cons_zero, List.set_cons_succ]
            refine wpAnyH_take (i := 3) (oi := _) (v := ?vz4) rfl (by kernel_rfl) (by kernel_rfl) (by kernel_rfl) (fun _ _ _ h => h) (Or.inl ⟨by kernel_rfl, ?hyz4⟩) hHeld ?restz4
            case hyz4 => (intro w hSw; go_simp; first | done | (with_reducible rfl))
            try simp only [Act.put, List.getElem_toArray, List.getElem_cons_succ, List.getElem_cons_zero, List.setIfInBounds_toArray, List.set_cons_zero, List.set_cons_succ]
            refine wpAnyH_take (i := 4) (oi := _) (v := ?vz5) rfl (by kernel_rfl) (by kernel_rfl) (by kernel_rfl) (fun _ _ _ h => h) (Or.inl ⟨by kernel_rfl, ?hyz5⟩) hHeld ?restz5
            case hyz5 => (intro w hSw; go_simp; first | done | (with_reducible rfl))
            try simp only [Act.put, List.getElem_toArray, List.getElem_cons_succ, List.getElem_cons_zero, List.setIfInBounds_toArray, List.set_cons_zero, List.set_cons_succ]
            refine wpAnyH_take (i := 5) (oi := _) (v := ?vz6) rfl (by kernel_rfl) (by kernel_rfl) (by kernel_rfl) (fun _ _ _ h => h) (Or.inl ⟨by kernel_rfl, ?hyz6⟩) hHeld ?restz6
            case hyz6 => (intro w hSw; go_simp; first | done | (with_reducible rfl))
            try simp only [Act.put, List.getElem_toArray, List.getElem_cons_succ, List.getElem_cons_zero, List.setIfInBounds_toArray, List.set_cons_zero, List.set_cons_succ]
            refine wpAnyH_take (i := 6) (oi := _) (v := ?vz7) rfl (by kernel_rfl) (by kernel_rfl) (by kernel_rfl) (fun _ _ _ h => h) (Or.inl ⟨by kernel_rfl, ?hyz7⟩) hHeld ?restz7
            case hyz7 => (intro w hSw; go_simp; first | done | (with_reducible rfl))
            try simp only [Act.put, List.getElem_toArray, List.getElem_cons_succ, List.getElem_cons_zero, List.setIfInBounds_toArray, List.set_cons_zero, List.set_cons_succ]
            refine wpAnyH_take (i := 7) (oi := _) (v := undef) rfl (by kernel_rfl) (by kernel_rfl) (by kernel_rfl) (fun _ _ _ h => h) (Or.inr ⟨by kernel_rfl, rfl⟩) hHeld ?_
            try simp only [Act.put, List.getElem_toArray, List.getElem_cons_succ, List.getElem_cons_zero, List.setIfInBounds_toArray, List.set_cons_zero, List.set_cons_succ]
            refine wpAnyH_take (i := 8) (oi := _) (v := undef) rfl (by kernel_rfl) (by kernel_rfl) (by kernel_rfl) (fun _ _ _ h => h) (Or.inr ⟨by kernel_rfl, rfl⟩) hHeld ?_
            try simp only [Act.put, List.getElem_toArray, List.getElem_cons_succ, List.getElem_cons_zero, List.setIfInBounds_toArray, List.set_cons_zero, List.set_cons_succ]
            refine wpAnyH_take (i := 9) (oi := _) (v := undef) rfl (by kernel_rfl) (by kernel_rfl) (by kernel_rfl) (fun _ _ _ h => h) (Or.inr ⟨by kernel_rfl, rfl⟩) hHeld ?_
            try simp only [Act.put, List.getElem_toArray, List.getElem_cons_succ, List.getElem_cons_zero, List.setIfInBounds_toArray, List.set_cons_zero, List.set_cons_succ]
            refine wpAnyH_take (i := 10) (oi := _) (v := undef) rfl (by kernel_rfl) (by kernel_rfl) (by kernel_rfl) (fun _ _ _ h => h) (Or.inr ⟨by kernel_rfl, rfl⟩) hHeld ?_
            try simp only [Act.put, List.getElem_toArray, List.getElem_cons_succ, List.getElem_cons_zero, List.setIfInBounds_toArray, List.set_cons_zero, List.set_cons_succ]
            refine wpAnyH_take (i := 11) (oi := _) (v := undef) rfl (by kernel_rfl) (by kernel_rfl) (by kernel_rfl) (fun _ _ _ h => h) (Or.inr ⟨by kernel_rfl, rfl⟩) hHeld ?_
            try simp only [Act.put, List.getElem_toArray, List.getElem_cons_succ, List.getElem_cons_zero, List.setIfInBounds_toArray, List.set_cons_zero, List.set_cons_succ]
            refine wpAnyH_take (i := 12) (oi := _) (v := undef) rfl (by kernel_rfl) (by kernel_rfl) (by kernel_rfl) (fun _ _ _ h => h) (Or.inr ⟨by kernel_rfl, rfl⟩) hHeld ?_
            try simp only [Act.put, List.getElem_toArray, List.getElem_cons_succ, List.getElem_cons_zero, List.setIfInBounds_toArray, List.set_cons_zero, List.set_cons_succ]
            refine wpAnyH_take (i := 13) (oi := _) (v := undef) rfl (by kernel_rfl) (by kernel_rfl) (by kernel_rfl) (fun _ _ _ h => h) (Or.inr ⟨by kernel_rfl, rfl⟩) hHeld ?_
            try simp only [Act.put, List.getElem_toArray, List.getElem_cons_succ, List.getElem_cons_zero, List.setIfInBounds_toArray, List.set_cons_zero, List.set_cons_succ]
            refine wpAnyH_take (i := 14) (oi := _) (v := undef) rfl (by kernel_rfl) (by kernel_rfl) (by kernel_rfl) (fun _ _ _ h => h) (Or.inr ⟨by kernel_rfl, rfl⟩) hHeld ?_
            try simp only [Act.put, List.getElem_toArray, List.getElem_cons_succ, List.getElem_cons_zero, List.setIfInBounds_toArray, List.set_cons_zero, List.set_cons_succ]
            refine wpAnyH_take (i := 15) (oi := _) (v := undef) rfl (by kernel_rfl) (by kernel_rfl) (by kernel_rfl) (fun _ _ _ h => h) (Or.inr ⟨by kernel_rfl, rfl⟩) hHeld ?_
            try simp only [Act.put, List.getElem_toArray, List.getElem_cons_succ, List.getElem_cons_zero, List.setIfInBounds_toArray, List.set_cons_zero, List.set_cons_succ]
            refine wpAnyH_take (i := 16) (oi := _) (v := undef) rfl (by kernel_rfl) (by kernel_rfl) (by kernel_rfl) (fun _ _ _ h => h) (Or.inr ⟨by kernel_rfl, rfl⟩) hHeld ?_
            try simp only [Act.put, List.getElem_toArray, List.getElem_cons_succ, List.getElem_cons_zero, List.setIfInBounds_toArray, List.set_cons_zero, List.set_cons_succ]
            refine wpAnyH_take (i := 17) (oi := _) (v := ?vz18) rfl (by kernel_rfl) (by kernel_rfl) (by kernel_rfl) (fun _ _ _ h => h) (Or.inl ⟨by kernel_rfl, ?hyz18⟩) hHeld ?restz18
            case hyz18 => (intro w hSw; go_simp; first | done | (with_reducible rfl))
            try simp only [Act.put, List.getElem_toArray, List.getElem_cons_succ, List.getElem_cons_zero, List.setIfInBounds_toArray, List.set_cons_zero, List.set_cons_succ]
            refine wpAnyH_take (i := 18) (oi := _) (v := ?vz19) rfl (by kernel_rfl) (by kernel_rfl) (by kernel_rfl) (fun _ _ _ h => h) (Or.inl ⟨by kernel_rfl, ?hyz19⟩) hHeld ?restz19
            case hyz19 => (intro w hSw; go_simp; first | done | (with_reducible rfl))
            try simp only [Act.put, List.getElem_toArray, List.getElem_cons_succ, List.getElem_cons_zero, List.setIfInBounds_toArray, List.set_cons_zero, List.set_cons_succ]
            refine wpAnyH_done (by kernel_rfl) ?_ _
            refine NoPanic.normal ?_
            replace hbb := keepB hbb hHeld
            go_wp2_with fail
            go_roundw
            case rel => exact ⟨0 + 1, by omega, by go_num, fun j hj => (Nat.lt_succ_iff_lt_or_eq.1 hj).elim (HOK.out j) (fun e => e ▸ EB.out), hbb⟩
            case measure => simp [intOf]; omega
          · obtain ⟨t, ht⟩ : ∃ t, Pc.at_ xs j = t := ⟨_, rfl⟩
            have htb := QS.out j
            rw [ht] at htb
            have x2 := keepC hbb (HC.out j (by omega)).2.2.1
            have x3 := keepC hbb (HC.out j (by omega)).2.2.2
            rw [ht] at x2 x3
            have ls := fun v => pless_any t.c t.d s.a s.b v htb.2.1 htb.2.2 hsb.1.1 hsb.1.2
            have hbd : Pc.bad xs (j + 1) = !Pc.lessB t.c t.d s.a s.b := by unfold Pc.bad; rw [hs, hsp, show j + 1 - 1 = j from rfl, ht]; simp
            have g1 : decide ((0 : Int) < (j : Int) + 1) = true := decide_eq_true (by omega)
            have t4 : IntKind.i64.wrap ((j : Int) + 1 - 1) = (j : Int) := by rw [show (j : Int) + 1 - 1 = j by omega]; exact IntWalk.i64_in _ (by omega)
            have t7 : IntKind.i64.wrap (j : Int) = (j : Int) := IntWalk.i64_in _ (by omega)
            have t5 : (j : Int) < (xs.length : Int) := by omega
            have t8 : (0 : Int) ≤ (j : Int) := by omega
            by_cases hle : Pc.lessB t.c t.d s.a s.b = true
            · rw [hle] at ls hbd
              have LS := Lib.hid ls
              have EB := Lib.hid (show Pc.bad xs (j + 1) = false from hbd)
              clear ls hbd
              rw [hsp] at is
              have IS := Lib.hid is
              clear is
              go_upto_region 6 with fail
              refine at_worldQ (fun v => Below w.heap.size w v ∧ BK v wr.heap.size [.int .i64 s.a, .int .i64 s.b, .int .i64 s.c, .int .i64 s.d] ∧ v.cell? ⟨b, off + j * 4 + 2, none⟩ = some (.int .i64 t.c) ∧ v.cell? ⟨b, off + j * 4 + 3, none⟩ = some (.int .i64 t.d)) ⟨below_al hbb _, BK.new wr [.int .i64 s.a, .int .i64 s.b, .int .i64 s.c, .int .i64 s.d] _, cell_alloc x2 _, cell_alloc x3 _⟩ (fun V hS => ?_)
              clear hbb c0 c1 c2 c3 x2 x3
              obtain ⟨hbb, BP, x2, x3⟩ := hS
              have p0 := BP.c 0 rfl
              have p1 := BP.c 1 rfl
              have p2 := BP.c 2 rfl
              have p3 := BP.c 3 rfl
              generalize wr.heap.size = PP at *
              clear BP
              refine wp_region_noPanic ?_
              refine wp_region_held_drew (S := (Below V.heap.size V)) (by kernel_rfl) ((Below.refl _ _).drew) (fun hHeld => ?_)
              refine at_anyH (Below V.heap.size V) hHeld (fun wn0 hNew => ?_)
              clear hHeld
              have hHeld := hNew
              clear hNew
              refine wpAnyH_take (i := 0) (oi := _) (v := ?vn1) rfl (by kernel_rfl) (by kernel_rfl) (by kernel_rfl) (fun _ _ _ h => h) (Or.inl ⟨by kernel_rfl, ?hyn1⟩) hHeld ?restn1
              case hyn1 => (intro w hSw; have kp0 := keepC hSw p0; have kp1 := keepC hSw p1; have kp2 := keepC hSw p2; have kp3 := keepC hSw p3; have kx2 := keepC hSw x2; have kx3 := keepC hSw x3; go_simp; first | done | (with_reducible rfl))
              try simp only [Act.put, List.getElem_toArray, List.getElem_cons_succ, List.getElem_cons_zero, List.setIfInBounds_toArray, List.set_cons_zero, List.set_cons_succ]
              refine wpAnyH_ready (rs := [1]) (by kernel_rfl) (by simp) (AllReadyH.cons (o := _) rfl (fun K hK => ?_) AllReadyH.nil)
              go_simp
              refine (IS.out _).mono ?_
              rintro e wn2 ⟨rfl, hb3⟩
              go_wp2_with fail
              refine hK.out _ _ (keepB hHeld hb3) (fun hNew => ?_)
              clear hb3
              clear hHeld hK K
              have hHeld := hNew
              clear hNew
              try simp only [Act.put, List.getElem_toArray, List.getElem_cons_succ, List.getElem_cons_zero, List.setIfInBounds_toArray, List.set_cons_zero, List.set_cons_succ]
              refine wpAnyH_take (i := 2) (oi := _) (v := ?vn3) rfl (by kernel_rfl) (by kernel_rfl) (by kernel_rfl) (fun _ _ _ h => h) (Or.inl ⟨by kernel_rfl, ?hyn3⟩) hHeld ?restn3
              case hyn3 => (intro w hSw; go_simp; first | done | (with_reducible rfl))
              try simp only [Act.put, List.getElem_toArray, List.getElem_cons_succ, List.getElem_cons_zero, List.setIfInBounds_toArray, List.set_cons_zero, List.set_cons_succ]
              refine wpAnyH_take (i := 3) (oi := _) (v := ?vn4) rfl (by kernel_rfl) (by kernel_rfl) (by kernel_rfl) (fun _ _ _ h => h) (Or.inl ⟨by kernel_rfl, ?hyn4⟩) hHeld ?restn4
              case hyn4 => (intro w hSw; go_simp; first | done | (with_reducible rfl))
              try simp only [Act.put, List.getElem_toArray, List.getElem_cons_succ, List.getElem_cons_zero, List.setIfInBounds_toArray, List.set_cons_zero, List.set_cons_succ]
              refine wpAnyH_take (i := 4) (oi := _) (v := ?vn5) rfl (by kernel_rfl) (by kernel_rfl) (by kernel_rfl) (fun _ _ _ h => h) (Or.inl ⟨by kernel_rfl, ?hyn5⟩) hHeld ?restn5
              case hyn5 => (intro w hSw; go_simp; first | done | (with_reducible rfl))
              try simp only [Act.put, List.getElem_toArray, List.getElem_cons_succ, List.getElem_cons_zero, List.setIfInBounds_toArray, List.set_cons_zero, List.set_cons_succ]
              refine wpAnyH_take (i := 5) (oi := _) (v := ?vn6) rfl (by kernel_rfl) (by kernel_rfl) (by kernel_rfl) (fun _ _ _ h => h) (Or.inl ⟨by kernel_rfl, ?hyn6⟩) hHeld ?restn6
              case hyn6 => (intro w hSw; go_simp; first | done | (with_reducible rfl))
              try simp only [Act.put, List.getElem_toArray, List.getElem_cons_succ, List.getElem_cons_zero, List.setIfInBounds_toArray, List.set_cons_zero, List.set_cons_succ]
              refine wpAnyH_take (i := 6) (oi := _) (v := ?vn7) rfl (by kernel_rfl) (by kernel_rfl) (by kernel_rfl) (fun _ _ _ h => h) (Or.inl ⟨by kernel_rfl, ?hyn7⟩) hHeld ?restn7
              case hyn7 => (intro w hSw; go_simp; first | done | (with_reducible rfl))
              try simp only [Act.put, List.getElem_toArray, List.getElem_cons_succ, List.getElem_cons_zero, List.setIfInBounds_toArray, List.set_cons_zero, List.set_cons_succ]
              refine wpAnyH_take (i := 7) (oi := _) (v := ?vn8) rfl (by kernel_rfl) (by kernel_rfl) (by kernel_rfl) (fun _ _ _ h => h) (Or.inl ⟨by kernel_rfl, ?hyn8⟩) hHeld ?restn8
              case hyn8 => (intro w hSw; go_simp; first | done | (with_reducible rfl))
              try simp only [Act.put, List.getElem_toArray, List.getElem_cons_succ, List.getElem_cons_zero, List.setIfInBounds_toArray, List.set_cons_zero, List.set_cons_succ]
              refine wpAnyH_take (i := 8) (oi := _) (v := ?vn9) rfl (by kernel_rfl) (by kernel_rfl) (by kernel_rfl) (fun _ _ _ h => h) (Or.inl ⟨by kernel_rfl, ?hyn9⟩) hHeld ?restn9
              case hyn9 => (intro w hSw; go_simp; first | done | (with_reducible rfl))
              try simp only [Act.put, List.getElem_toArray, List.getElem_cons_succ, List.getElem_cons_zero, List.setIfInBounds_toArray, List.set_cons_zero, List.set_cons_succ]
              refine wpAnyH_take (i := 9) (oi := _) (v := ?vn10) rfl (by kernel_rfl) (by kernel_rfl) (by kernel_rfl) (fun _ _ _ h => h) (Or.inl ⟨by kernel_rfl, ?hyn10⟩) hHeld ?restn10
              case hyn10 => (intro w hSw; go_simp; first | done | (with_reducible rfl))
              try simp only [Act.put, List.getElem_toArray, List.getElem_cons_succ, List.getElem_cons_zero, List.setIfInBounds_toArray, List.set_cons_zero, List.set_cons_succ]
              refine wpAnyH_take (i := 10) (oi := _) (v := ?vn11) rfl (by kernel_rfl) (by kernel_rfl) (by kernel_rfl) (fun _ _ _ h => h) (Or.inl ⟨by kernel_rfl, ?hyn11⟩) hHeld ?restn11
              case hyn11 => (intro w hSw; go_simp; first | done | (with_reducible rfl))
              try simp only [Act.put, List.getElem_toArray, List.getElem_cons_succ, List.getElem_cons_zero, List.setIfInBounds_toArray, List.set_cons_zero, List.set_cons_succ]
              refine wpAnyH_take (i := 11) (oi := _) (v := ?vn12) rfl (by kernel_rfl) (by kernel_rfl) (by kernel_rfl) (fun _ _ _ h => h) (Or.inl ⟨by kernel_rfl, ?hyn12⟩) hHeld ?restn12
              case hyn12 => (intro w hSw; go_simp; first | done | (with_reducible rfl))
              try simp only [Act.put, List.getElem_toArray, List.getElem_cons_succ, List.getElem_cons_zero, List.setIfInBounds_toArray, List.set_cons_zero, List.set_cons_succ]
              refine wpAnyH_take (i := 12) (oi := _) (v := ?vn13) rfl (by kernel_rfl) (by kernel_rfl) (by kernel_rfl) (fun _ _ _ h => h) (Or.inl ⟨by kernel_rfl, ?hyn13⟩) hHeld ?restn13
              case hyn13 => (intro w hSw; have kp0 := keepC hSw p0; have kp1 := keepC hSw p1; have kp2 := keepC hSw p2; have kp3 := keepC hSw p3; have kx2 := keepC hSw x2; have kx3 := keepC hSw x3; go_simp; first | done | (with_reducible rfl))
              try simp only [Act.put, List.getElem_toArray, List.getElem_cons_succ, List.getElem_cons_zero, List.setIfInBounds_toArray, List.set_cons_zero, List.set_cons_succ]
              refine wpAnyH_take (i := 13) (oi := _) (v := ?vn14) rfl (by kernel_rfl) (by kernel_rfl) (by kernel_rfl) (fun _ _ _ h => h) (Or.inl ⟨by kernel_rfl, ?hyn14⟩) hHeld ?restn14
              case hyn14 => (intro w hSw; go_simp; first | done | (with_reducible rfl))
              try simp only [Act.put, List.getElem_toArray, List.getElem_cons_succ, List.getElem_cons_zero, List.setIfInBounds_toArray, List.set_cons_zero, List.set_cons_succ]
              refine wpAnyH_take (i := 14) (oi := _) (v := ?vn15) rfl (by kernel_rfl) (by kernel_rfl) (by kernel_rfl) (fun _ _ _ h => h) (Or.inl ⟨by kernel_rfl, ?hyn15⟩) hHeld ?restn15
              case hyn15 => (intro w hSw; have kp0 := keepC hSw p0; have kp1 := keepC hSw p1; have kp2 := keepC hSw p2; have kp3 := keepC hSw p3; have kx2 := keepC hSw x2; have kx3 := keepC hSw x3; go_simp; first | done | (with_reducible rfl))
              try simp only [Act.put, List.getElem_toArray, List.getElem_cons_succ, List.getElem_cons_zero, List.setIfInBounds_toArray, List.set_cons_zero, List.set_cons_succ]
              refine wpAnyH_ready (rs := [15]) (by kernel_rfl) (by simp) (AllReadyH.cons (o := _) rfl (fun K hK => ?_) AllReadyH.nil)
              go_simp
              refine (LS.out _).mono ?_
              rintro e wn16 ⟨rfl, hb3⟩
              go_wp2_with fail
              refine hK.out _ _ (keepB hHeld hb3) (fun hNew => ?_)
              clear hb3
              clear hHeld hK K
              have hHeld := hNew
              clear hNew
              try simp only [Act.put, List.getElem_toArray, List.getElem_cons_succ, List.getElem_cons_zero, List.setIfInBounds_toArray, List.set_cons_zero, List.set_cons_succ]
              refine wpAnyH_take (i := 16) (oi := _) (v := ?vn17) rfl (by kernel_rfl) (by kernel_rfl) (by kernel_rfl) (fun _ _ _ h => h) (Or.inl ⟨by kernel_rfl, ?hyn17⟩) hHeld ?restn17
              case hyn17 => (intro w hSw; go_simp; first | done | (with_reducible rfl))
              try simp only [Act.put, List.getElem_toArray, List.getElem_cons_succ, List.getElem_cons_zero, List.setIfInBounds_toArray, List.set_cons_zero, List.set_cons_succ]
              refine wpAnyH_take (i := 17) (oi := _) (v := ?vn18) rfl (by kernel_rfl) (by kernel_rfl) (by kernel_rfl) (fun _ _ _ h => h) (Or.inl ⟨by kernel_rfl, ?hyn18⟩) hHeld ?restn18
              case hyn18 => (intro w hSw; go_simp; first | done | (with_reducible rfl))
              try simp only [Act.put, List.getElem_toArray, List.getElem_cons_succ, List.getElem_cons_zero, List.setIfInBounds_toArray, List.set_cons_zero, List.set_cons_succ]
              refine wpAnyH_take (i := 18) (oi := _) (v := ?vn19) rfl (by kernel_rfl) (by kernel_rfl) (by kernel_rfl) (fun _ _ _ h => h) (Or.inl ⟨by kernel_rfl, ?hyn19⟩) hHeld ?restn19
              case hyn19 => (intro w hSw; go_simp; first | done | (with_reducible rfl))
              try simp only [Act.put, List.getElem_toArray, List.getElem_cons_succ, List.getElem_cons_zero, List.setIfInBounds_toArray, List.set_cons_zero, List.set_cons_succ]
              refine wpAnyH_done (by kernel_rfl) ?_ _
              refine NoPanic.normal ?_
              replace hbb := keepB hbb hHeld
              go_wp2_with fail
              go_roundw
              case rel => exact ⟨j + 1 + 1, by omega, by go_num, fun j hj => (Nat.lt_succ_iff_lt_or_eq.1 hj).elim (HOK.out j) (fun e => e ▸ EB.out), hbb⟩
              case measure => simp [intOf]; omega
            · have hle : Pc.lessB t.c t.d s.a s.b = false := by simpa using hle
              rw [hle] at ls hbd
              have LS := Lib.hid ls
              have EB := Lib.hid (Pc.chk_bad hm hlt hbd)
              clear ls hbd
              rw [hsp] at is
              have IS := Lib.hid is
              clear is
              go_upto_region 6 with fail
              refine at_worldQ (fun v => Below w.heap.size w v ∧ BK v wr.heap.size [.int .i64 s.a, .int .i64 s.b, .int .i64 s.c, .int .i64 s.d] ∧ v.cell? ⟨b, off + j * 4 + 2, none⟩ = some (.int .i64 t.c) ∧ v.cell? ⟨b, off + j * 4 + 3, none⟩ = some (.int .i64 t.d)) ⟨below_al hbb _, BK.new wr [.int .i64 s.a, .int .i64 s.b, .int .i64 s.c, .int .i64 s.d] _, cell_alloc x2 _, cell_alloc x3 _⟩ (fun V hS => ?_)
              clear hbb c0 c1 c2 c3 x2 x3
              obtain ⟨hbb, BP, x2, x3⟩ := hS
              have p0 := BP.c 0 rfl
              have p1 := BP.c 1 rfl
              have p2 := BP.c 2 rfl
              have p3 := BP.c 3 rfl
              generalize wr.heap.size = PP at *
              clear BP
              refine wp_region_noPanic ?_
              refine wp_region_held_drew (S := (Below V.heap.size V)) (by kernel_rfl) ((Below.refl _ _).drew) (fun hHeld => ?_)
              refine at_anyH (Below V.heap.size V) hHeld (fun wm0 hNew => ?_)
              clear hHeld
              have hHeld := hNew
              clear hNew
              refine wpAnyH_take (i := 0) (oi := _) (v := ?vm1) rfl (by kernel_rfl) (by kernel_rfl) (by kernel_rfl) (fun _ _ _ h => h) (Or.inl ⟨by kernel_rfl, ?hym1⟩) hHeld ?restm1
              case hym1 => (intro w hSw; have kp0 := keepC hSw p0; have kp1 := keepC hSw p1; have kp2 := keepC hSw p2; have kp3 := keepC hSw p3; have kx2 := keepC hSw x2; have kx3 := keepC hSw x3; go_simp; first | done | (with_reducible rfl))
              try simp only [Act.put, List.getElem_toArray, List.getElem_cons_succ, List.getElem_cons_zero, List.setIfInBounds_toArray, List.set_cons_zero, List.set_cons_succ]
              refine wpAnyH_ready (rs := [1]) (by kernel_rfl) (by simp) (AllReadyH.cons (o := _) rfl (fun K hK => ?_) AllReadyH.nil)
              go_simp
              refine (IS.out _).mono ?_
              rintro e wm2 ⟨rfl, hb3⟩
              go_wp2_with fail
              refine hK.out _ _ (keepB hHeld hb3) (fun hNew => ?_)
              clear hb3
              clear hHeld hK K
              have hHeld := hNew
              clear hNew
              try simp only [Act.put, List.getElem_toArray, List.getElem_cons_succ, List.getElem_cons_zero, List.setIfInBounds_toArray, List.set_cons_zero, List.set_cons_succ]
              refine wpAnyH_take (i := 2) (oi := _) (v := ?vm3) rfl (by kernel_rfl) (by kernel_rfl) (by kernel_rfl) (fun _ _ _ h => h) (Or.inl ⟨by kernel_rfl, ?hym3⟩) hHeld ?restm3
              case hym3 => (intro w hSw; go_simp; first | done | (with_reducible rfl))
              try simp only [Act.put, List.getElem_toArray, List.getElem_cons_succ, List.getElem_cons_zero, List.setIfInBounds_toArray, List.set_cons_zero, List.set_cons_succ]
              refine wpAnyH_take (i := 3) (oi := _) (v := ?vm4) rfl (by kernel_rfl) (by kernel_rfl) (by kernel_rfl) (fun _ _ _ h => h) (Or.inl ⟨by kernel_rfl, ?hym4⟩) hHeld ?restm4
              case hym4 => (intro w hSw; go_simp; first | done | (with_reducible rfl))
              try simp only [Act.put, List.getElem_toArray, List.getElem_cons_succ, List.getElem_cons_zero, List.setIfInBounds_toArray, List.set_cons_zero, List.set_cons_succ]
              refine wpAnyH_take (i := 4) (oi := _) (v := ?vm5) rfl (by kernel_rfl) (by kernel_rfl) (by kernel_rfl) (fun _ _ _ h => h) (Or.inl ⟨by kernel_rfl, ?hym5⟩) hHeld ?restm5
              case hym5 => (intro w hSw; go_simp; first | done | (with_reducible rfl))
              try simp only [Act.put, List.getElem_toArray, List.getElem_cons_succ, List.getElem_cons_zero, List.setIfInBounds_toArray, List.set_cons_zero, List.set_cons_succ]
              refine wpAnyH_take (i := 5) (oi := _) (v := ?vm6) rfl (by kernel_rfl) (by kernel_rfl) (by kernel_rfl) (fun _ _ _ h => h) (Or.inl ⟨by kernel_rfl, ?hym6⟩) hHeld ?restm6
              case hym6 => (intro w hSw; go_simp; first | done | (with_reducible rfl))
              try simp only [Act.put, List.getElem_toArray, List.getElem_cons_succ, List.getElem_cons_zero, List.setIfInBounds_toArray, List.set_cons_zero, List.set_cons_succ]
              refine wpAnyH_take (i := 6) (oi := _) (v := ?vm7) rfl (by kernel_rfl) (by kernel_rfl) (by kernel_rfl) (fun _ _ _ h => h) (Or.inl ⟨by kernel_rfl, ?hym7⟩) hHeld ?restm7
              case hym7 => (intro w hSw; go_simp; first | done | (with_reducible rfl))
              try simp only [Act.put, List.getElem_toArray, List.getElem_cons_succ, List.getElem_cons_zero, List.setIfInBounds_toArray, List.set_cons_zero, List.set_cons_succ]
              refine wpAnyH_take (i := 7) (oi := _) (v := ?vm8) rfl (by kernel_rfl) (by kernel_rfl) (by kernel_rfl) (fun _ _ _ h => h) (Or.inl ⟨by kernel_rfl, ?hym8⟩) hHeld ?restm8
              case hym8 => (intro w hSw; go_simp; first | done | (with_reducible rfl))
              try simp only [Act.put, List.getElem_toArray, List.getElem_cons_succ, List.getElem_cons_zero, List.setIfInBounds_toArray, List.set_cons_zero, List.set_cons_succ]
              refine wpAnyH_take (i := 8) (oi := _) (v := ?vm9) rfl (by kernel_rfl) (by kernel_rfl) (by kernel_rfl) (fun _ _ _ h => h) (Or.inl ⟨by kernel_rfl, ?hym9⟩) hHeld ?restm9
              case hym9 => (intro w hSw; go_simp; first | done | (with_reducible rfl))
              try simp only [Act.put, List.getElem_toArray, List.getElem_cons_succ, List.getElem_cons_zero, List.setIfInBounds_toArray, List.set_cons_zero, List.set_cons_succ]
              refine wpAnyH_take (i := 9) (oi := _) (v := ?vm10) rfl (by kernel_rfl) (by kernel_rfl) (by kernel_rfl) (fun _ _ _ h => h) (Or.inl ⟨by kernel_rfl, ?hym10⟩) hHeld ?restm10
              case hym10 => (intro w hSw; go_simp; first | done | (with_reducible rfl))
              try simp only [Act.put, List.getElem_toArray, List.getElem_cons_succ, List.getElem_cons_zero, List.setIfInBounds_toArray, List.set_cons_zero, List.set_cons_succ]
              refine wpAnyH_take (i := 10) (oi := _) (v := ?vm11) rfl (by kernel_rfl) (by kernel_rfl) (by kernel_rfl) (fun _ _ _ h => h) (Or.inl ⟨by kernel_rfl, ?hym11⟩) hHeld ?restm11
              case hym11 => (intro w hSw; go_simp; first | done | (with_reducible rfl))
              try simp only [Act.put, List.getElem_toArray, List.getElem_cons_succ, List.getElem_cons_zero, List.setIfInBounds_toArray, List.set_cons_zero, List.set_cons_succ]
              refine wpAnyH_take (i := 11) (oi := _) (v := ?vm12) rfl (by kernel_rfl) (by kernel_rfl) (by kernel_rfl) (fun _ _ _ h => h) (Or.inl ⟨by kernel_rfl, ?hym12⟩) hHeld ?restm12
              case hym12 => (intro w hSw; go_simp; first | done | (with_reducible rfl))
              try simp only [Act.put, List.getElem_toArray, List.getElem_cons_succ, List.getElem_cons_zero, List.setIfInBounds_toArray, List.set_cons_zero, List.set_cons_succ]
              refine wpAnyH_take (i := 12) (oi := _) (v := ?vm13) rfl (by kernel_rfl) (by kernel_rfl) (by kernel_rfl) (fun _ _ _ h => h) (Or.inl ⟨by kernel_rfl, ?hym13⟩) hHeld ?restm13
              case hym13 => (intro w hSw; have kp0 := keepC hSw p0; have kp1 := keepC hSw p1; have kp2 := keepC hSw p2; have kp3 := keepC hSw p3; have kx2 := keepC hSw x2; have kx3 := keepC hSw x3; go_simp; first | done | (with_reducible rfl))
              try simp only [Act.put, List.getElem_toArray, List.getElem_cons_succ, List.getElem_cons_zero, List.setIfInBounds_toArray, List.set_cons_zero, List.set_cons_succ]
              refine wpAnyH_take (i := 13) (oi := _) (v := ?vm14) rfl (by kernel_rfl) (by kernel_rfl) (by kernel_rfl) (fun _ _ _ h => h) (Or.inl ⟨by kernel_rfl, ?hym14⟩) hHeld ?restm14
              case hym14 => (intro w hSw; go_simp; first | done | (with_reducible rfl))
              try simp only [Act.put, List.getElem_toArray, List.getElem_cons_succ, List.getElem_cons_zero, List.setIfInBounds_toArray, List.set_cons_zero, List.set_cons_succ]
              refine wpAnyH_take (i := 14) (oi := _) (v := ?vm15) rfl (by kernel_rfl) (by kernel_rfl) (by kernel_rfl) (fun _ _ _ h => h) (Or.inl ⟨by kernel_rfl, ?hym15⟩) hHeld ?restm15
              case hym15 => (intro w hSw; have kp0 := keepC hSw p0; have kp1 := keepC hSw p1; have kp2 := keepC hSw p2; have kp3 := keepC hSw p3; have kx2 := keepC hSw x2; have kx3 := keepC hSw x3; go_simp; first | done | (with_reducible rfl))
              try simp only [Act.put, List.getElem_toArray, List.getElem_cons_succ, List.getElem_cons_zero, List.setIfInBounds_toArray, List.set_cons_zero, List.set_cons_succ]
              refine wpAnyH_ready (rs := [15]) (by kernel_rfl) (by simp) (AllReadyH.cons (o := _) rfl (fun K hK => ?_) AllReadyH.nil)
              go_simp
              refine (LS.out _).mono ?_
              rintro e wm16 ⟨rfl, hb3⟩
              go_wp2_with fail
              refine hK.out _ _ (keepB hHeld hb3) (fun hNew => ?_)
              clear hb3
              clear hHeld hK K
              have hHeld := hNew
              clear hNew
              try simp only [Act.put, List.getElem_toArray, List.getElem_cons_succ, List.getElem_cons_zero, List.setIfInBounds_toArray, List.set_cons_zero, List.set_cons_succ]
              refine wpAnyH_take (i := 16) (oi := _) (v := ?vm17) rfl (by kernel_rfl) (by kernel_rfl) (by kernel_rfl) (fun _ _ _ h => h) (Or.inl ⟨by kernel_rfl, ?hym17⟩) hHeld ?restm17
              case hym17 => (intro w hSw; go_simp; first | done | (with_reducible rfl))
              try simp only [Act.put, List.getElem_toArray, List.getElem_cons_succ, List.getElem_cons_zero, List.setIfInBounds_toArray, List.set_cons_zero, List.set_cons_succ]
              refine wpAnyH_take (i := 17) (oi := _) (v := ?vm18) rfl (by kernel_rfl) (by kernel_rfl) (by kernel_rfl) (fun _ _ _ h => h) (Or.inl ⟨by kernel_rfl, ?hym18⟩) hHeld ?restm18
              case hym18 => (intro w hSw; go_simp; first | done | (with_reducible rfl))
              try simp only [Act.put, List.getElem_toArray, List.getElem_cons_succ, List.getElem_cons_zero, List.setIfInBounds_toArray, List.set_cons_zero, List.set_cons_succ]
              refine wpAnyH_take (i := 18) (oi := _) (v := ?vm19) rfl (by kernel_rfl) (by kernel_rfl) (by kernel_rfl) (fun _ _ _ h => h) (Or.inl ⟨by kernel_rfl, ?hym19⟩) hHeld ?restm19
              case hym19 => (intro w hSw; go_simp; first | done | (with_reducible rfl))
              try simp only [Act.put, List.getElem_toArray, List.getElem_cons_succ, List.getElem_cons_zero, List.setIfInBounds_toArray, List.set_cons_zero, List.set_cons_succ]
              refine wpAnyH_done (by kernel_rfl) ?_ _
              refine NoPanic.normal ?_
              go_wp2_with fail
              go_ret
              exact ⟨by rw [EB.out]; rfl, keepB hbb hHeld⟩
        · have hsp : Pc.spanB s = false := by simpa using hsp
          have EB := Lib.hid (Pc.chk_bad hm hlt (show Pc.bad xs k = true by unfold Pc.bad; rw [hs, hsp]; rfl))
          rw [hsp] at is
          have IS := Lib.hid is
          clear is
          go_upto_region 6 with fail
          refine at_worldQ (fun v => Below w.heap.size w v ∧ BK v wr.heap.size [.int .i64 s.a, .int .i64 s.b, .int .i64 s.c, .int .i64 s.d]) ⟨below_al hbb _, BK.new wr [.int .i64 s.a, .int .i64 s.b, .int .i64 s.c, .int .i64 s.d] _⟩ (fun V hS => ?_)
          clear hbb c0 c1 c2 c3
          obtain ⟨hbb, BP⟩ := hS
          have p0 := BP.c 0 rfl
          have p1 := BP.c 1 rfl
          have p2 := BP.c 2 rfl
          have p3 := BP.c 3 rfl
          generalize wr.heap.size = PP at *
          clear BP
          refine wp_region_noPanic ?_
          refine wp_region_held_drew (S := (Below V.heap.size V)) (by kernel_rfl) ((Below.refl _ _).drew) (fun hHeld => ?_)
          refine at_anyH (Below V.heap.size V) hHeld (fun wb0 hNew => ?_)
          clear hHeld
          have hHeld := hNew
          clear hNew
          refine wpAnyH_take (i := 0) (oi := _) (v := ?vb1) rfl (by kernel_rfl) (by kernel_rfl) (by kernel_rfl) (fun _ _ _ h => h) (Or.inl ⟨by kernel_rfl, ?hyb1⟩) hHeld ?restb1
          case hyb1 => (intro w hSw; have kp0 := keepC hSw p0; have kp1 := keepC hSw p1; have kp2 := keepC hSw p2; have kp3 := keepC hSw p3; go_simp; first | done | (with_reducible rfl))
          try simp only [Act.put, List.getElem_toArray, List.getElem_cons_succ, List.getElem_cons_zero, List.setIfInBounds_toArray, List.set_cons_zero, List.set_cons_succ]
          refine wpAnyH_ready (rs := [1]) (by kernel_rfl) (by simp) (AllReadyH.cons (o := _) rfl (fun K hK => ?_) AllReadyH.nil)
          go_simp
          refine (IS.out _).mono ?_
          rintro e wb2 ⟨rfl, hb3⟩
          go_wp2_with fail
          refine hK.out _ _ (keepB hHeld hb3) (fun hNew => ?_)
          clear hb3
          clear hHeld hK K
          have hHeld := hNew
          clear hNew
          try simp only [Act.put, List.getElem_toArray, List.getElem_cons_succ, List.getElem_cons_zero, List.setIfInBounds_toArray, List.set_cons_zero, List.set_cons_succ]
          refine wpAnyH_take (i := 2) (oi := _) (v := ?vb3) rfl (by kernel_rfl) (by kernel_rfl) (by kernel_rfl) (fun _ _ _ h => h) (Or.inl ⟨by kernel_rfl, ?hyb3⟩) hHeld ?restb3
          case hyb3 => (intro w hSw; go_simp; first | done | (with_reducible rfl))
          try simp only [Act.put, List.getElem_toArray, List.getElem_cons_succ, List.getElem_cons_zero, List.setIfInBounds_toArray, List.set_cons_zero, List.set_cons_succ]
          refine wpAnyH_take (i := 3) (oi := _) (v := ?vb4) rfl (by kernel_rfl) (by kernel_rfl) (by kernel_rfl) (fun _ _ _ h => h) (Or.inl ⟨by kernel_rfl, ?hyb4⟩) hHeld ?restb4
          case hyb4 => (intro w hSw; go_simp; first | done | (with_reducible rfl))
          try simp only [Act.put, List.getElem_toArray, List.getElem_cons_succ, List.getElem_cons_zero, List.setIfInBounds_toArray, List.set_cons_zero, List.set_cons_succ]
          refine wpAnyH_take (i := 4) (oi := _) (v := undef) rfl (by kernel_rfl) (by kernel_rfl) (by kernel_rfl) (fun _ _ _ h => h) (Or.inr ⟨by kernel_rfl, rfl⟩) hHeld ?_
          try simp only [Act.put, List.getElem_toArray, List.getElem_cons_succ, List.getElem_cons_zero, List.setIfInBounds_toArray, List.set_cons_zero, List.set_cons_succ]
          refine wpAnyH_take (i := 5) (oi := _) (v := undef) rfl (by kernel_rfl) (by kernel_rfl) (by kernel_rfl) (fun _ _ _ h => h) (Or.inr ⟨by kernel_rfl, rfl⟩) hHeld ?_
          try simp only [Act.put, List.getElem_toArray, List.getElem_cons_succ, List.getElem_cons_zero, List.setIfInBounds_toArray, List.set_cons_zero, List.set_cons_succ]
          refine wpAnyH_take (i := 6) (oi := _) (v := undef) rfl (by kernel_rfl) (by kernel_rfl) (by kernel_rfl) (fun _ _ _ h => h) (Or.inr ⟨by kernel_rfl, rfl⟩) hHeld ?_
          try simp only [Act.put, List.getElem_toArray, List.getElem_cons_succ, List.getElem_cons_zero, List.setIfInBounds_toArray, List.set_cons_zero, List.set_cons_succ]
          refine wpAnyH_take (i := 7) (oi := _) (v := undef) rfl (by kernel_rfl) (by kernel_rfl) (by kernel_rfl) (fun _ _ _ h => h) (Or.inr ⟨by kernel_rfl, rfl⟩) hHeld ?_
          try simp only [Act.put, List.getElem_toArray, List.getElem_cons_succ, List.getElem_cons_zero, List.setIfInBounds_toArray, List.set_cons_zero, List.set_cons_succ]
          refine wpAnyH_take (i := 8) (oi := _) (v := undef) rfl (by kernel_rfl) (by kernel_rfl) (by kernel_rfl) (fun _ _ _ h => h) (Or.inr ⟨by kernel_rfl, rfl⟩) hHeld ?_
          try simp only [Act.put, List.getElem_toArray, List.getElem_cons_succ, List.getElem_cons_zero, List.setIfInBounds_toArray, List.set_cons_zero, List.set_cons_succ]
          refine wpAnyH_take (i := 9) (oi := _) (v := undef) rfl (by kernel_rfl) (by kernel_rfl) (by kernel_rfl) (fun _ _ _ h => h) (Or.inr ⟨by kernel_rfl, rfl⟩) hHeld ?_
          try simp only [Act.put, List.getElem_toArray, List.getElem_cons_succ, List.getElem_cons_zero, List.setIfInBounds_toArray, List.set_cons_zero, List.set_cons_succ]
          refine wpAnyH_take (i := 10) (oi := _) (v := undef) rfl (by kernel_rfl) (by kernel_rfl) (by kernel_rfl) (fun _ _ _ h => h) (Or.inr ⟨by kernel_rfl, rfl⟩) hHeld ?_
          try simp only [Act.put, List.getElem_toArray, List.getElem_cons_succ, List.getElem_cons_zero, List.setIfInBounds_toArray, List.set_cons_zero, List.set_cons_succ]
          refine wpAnyH_take (i := 11) (oi := _) (v := undef) rfl (by kernel_rfl) (by kernel_rfl) (by kernel_rfl) (fun _ _ _ h => h) (Or.inr ⟨by kernel_rfl, rfl⟩) hHeld ?_
          try simp only [Act.put, List.getElem_toArray, List.getElem_cons_succ, List.getElem_cons_zero, List.setIfInBounds_toArray, List.set_cons_zero, List.set_cons_succ]
          refine wpAnyH_take (i := 12) (oi := _) (v := undef) rfl (by kernel_rfl) (by kernel_rfl) (by kernel_rfl) (fun _ _ _ h => h) (Or.inr ⟨by kernel_rfl, rfl⟩) hHeld ?_
          try simp only [Act.put, List.getElem_toArray, List.getElem_cons_succ, List.getElem_cons_zero, List.setIfInBounds_toArray, List.set_cons_zero, List.set_cons_succ]
          refine wpAnyH_take (i := 13) (oi := _) (v := undef) rfl (by kernel_rfl) (by kernel_rfl) (by kernel_rfl) (fun _ _ _ h => h) (Or.inr ⟨by kernel_rfl, rfl⟩) hHeld ?_
          try simp only [Act.put, List.getElem_toArray, List.getElem_cons_succ, List.getElem_cons_zero, List.setIfInBounds_toArray, List.set_cons_zero, List.set_cons_succ]
          refine wpAnyH_take (i := 14) (oi := _) (v := undef) rfl (by kernel_rfl) (by kernel_rfl) (by kernel_rfl) (fun _ _ _ h => h) (Or.inr ⟨by kernel_rfl, rfl⟩) hHeld ?_
          try simp only [Act.put, List.getElem_toArray, List.getElem_cons_succ, List.getElem_cons_zero, List.setIfInBounds_toArray, List.set_cons_zero, List.set_cons_succ]
          refine wpAnyH_take (i := 15) (oi := _) (v := undef) rfl (by kernel_rfl) (by kernel_rfl) (by kernel_rfl) (fun _ _ _ h => h) (Or.inr ⟨by kernel_rfl, rfl⟩) hHeld ?_
          try simp only [Act.put, List.getElem_toArray, List.getElem_cons_succ, List.getElem_cons_zero, List.setIfInBounds_toArray, List.set_cons_zero, List.set_cons_succ]
          refine wpAnyH_take (i := 16) (oi := _) (v := undef) rfl (by kernel_rfl) (by kernel_rfl) (by kernel_rfl) (fun _ _ _ h => h) (Or.inr ⟨by kernel_rfl, rfl⟩) hHeld ?_
          try simp only [Act.put, List.getElem_toArray, List.getElem_cons_succ, List.getElem_cons_zero, List.setIfInBounds_toArray, List.set_cons_zero, List.set_cons_succ]
          refine wpAnyH_take (i := 17) (oi := _) (v := undef) rfl (by kernel_rfl) (by kernel_rfl) (by kernel_rfl) (fun _ _ _ h => h) (Or.inr ⟨by kernel_rfl, rfl⟩) hHeld ?_
          try simp only [Act.put, List.getElem_toArray, List.getElem_cons_succ, List.getElem_cons_zero, List.setIfInBounds_toArray, List.set_cons_zero, List.set_cons_succ]
          refine wpAnyH_take (i := 18) (oi := _) (v := ?vb19) rfl (by kernel_rfl) (by kernel_rfl) (by kernel_rfl) (fun _ _ _ h => h) (Or.inl ⟨by kernel_rfl, ?hyb19⟩) hHeld ?restb19
          case hyb19 => (intro w hSw; go_simp; first | done | (with_reducible rfl))
          try simp only [Act.put, List.getElem_toArray, List.getElem_cons_succ, List.getElem_cons_zero, List.setIfInBounds_toArray, List.set_cons_zero, List.set_cons_succ]
          refine wpAnyH_done (by kernel_rfl) ?_ _
          refine NoPanic.normal ?_
          go_wp2_with fail
          go_ret
          exact ⟨by rw [EB.out]; rfl, keepB hbb hHeld⟩
      · obtain rfl : k = xs.length := by omega
        have EB := Lib.hid (Pc.chk_ok hm HOK.out)
        clear HA HC QS HOK
        go_wp2_with fail
        go_ret
        exact ⟨by rw [EB.out]; rfl, hbb⟩

theorem Pc.lessB_ok {n d m c : Int} (h : Rp.Ok n d) (k : Rp.Ok m c) : Pc.lessB n d m c = decide (Rp.q n d < Rp.q m c) := by
  unfold Pc.lessB
  rw [decide_eq_decide]
  exact ⟨fun x => x.2.2, fun x => ⟨h, k, x⟩⟩
theorem Pc.lessB_not {n d m c : Int} (h : Rp.both n d m c = 8) : Pc.lessB n d m c = false := by
  refine decide_eq_false fun k => ?_
  unfold Rp.both Rp.chk at h
  rw [if_pos k.1, if_pos k.2.1] at h
  cases h
set_option maxHeartbeats 1000000 in
theorem rValid_any (s : Raw) (w : World) (h : Pc.Raw64 s) :
    Calls Try.prog 112 #[.agg #[.int .i64 s.a, .int .i64 s.b, .int .i64 s.c, .int .i64 s.d]] w fun e w' => e = .returned (.bool (Pc.spanB s)) ∧ Below w.heap.size w w' := by
  obtain ⟨a, b, c, d⟩ := s
  obtain ⟨⟨h1, h2⟩, h3, h4⟩ := h
  show Calls Try.prog 112 #[.agg #[.int .i64 a, .int .i64 b, .int .i64 c, .int .i64 d]] w fun e w' => e = .returned (.bool (Pc.lessB a b c d)) ∧ Below w.heap.size w w'
  have rb := fun v => rBoth_any a b c d v h1.1 h1.2 h2.1 h2.2 h3.1 h3.2 h4.1 h4.2
  clear h1 h2 h3 h4
  rcases both_cases a b c d with ⟨h, hx, hy⟩ | h
  · rw [h] at rb
    rw [Pc.lessB_ok hx hy]
    have L := Lib.hid (fun v => Less_any a b c d hx hy v)
    generalize decide (Rp.q a b < Rp.q c d) = R at *
    have RB := Lib.hid rb
    clear rb h hx hy
    go_enter Try.func112, Try.ntmps112
    go_wp2_with fail
    refine (RB.out _).mono ?_
    rintro e w1 ⟨rfl, hb1⟩
    have x0 : w1.cell? ⟨w.heap.size, 0, none⟩ = some (.int .i64 a) := keepC hb1 (by go_simp)
    have x1 : w1.cell? ⟨w.heap.size, 1, none⟩ = some (.int .i64 b) := keepC hb1 (by go_simp)
    have x2 : w1.cell? ⟨w.heap.size, 2, none⟩ = some (.int .i64 c) := keepC hb1 (by go_simp)
    have x3 : w1.cell? ⟨w.heap.size, 3, none⟩ = some (.int .i64 d) := keepC hb1 (by go_simp)
    have hbb : Below w.heap.size w w1 := keepB ((Below.refl _ _).alloc (Nat.le_refl _) _) hb1
    clear hb1 RB
    go_wp2_with fail
    refine (L.out _).mono ?_
    rintro e w2 ⟨rfl, hb2⟩
    go_wp2
    go_ret
    exact ⟨rfl, keepB hbb hb2⟩
  · rw [h] at rb
    rw [Pc.lessB_not h]
    have RB := Lib.hid rb
    clear rb h
    go_enter Try.func112, Try.ntmps112
    go_wp2_with fail
    refine (RB.out _).mono ?_
    rintro e w1 ⟨rfl, hb1⟩
    have hbb : Below w.heap.size w w1 := keepB ((Below.refl _ _).alloc (Nat.le_refl _) _) hb1
    clear hb1 RB
    go_wp2
    go_ret
    exact ⟨rfl, hbb⟩

set_option linter.unusedSimpArgs false in
set_option maxHeartbeats 4000000 in
set_option maxRecDepth 100000 in
theorem rChk_any (A : Option Addr) (cap : Nat) (xs : List Raw) (w : World) (h : IsS w A xs) :
    Calls Try.prog 52 #[.slice A xs.length cap] w fun e w' => e = .returned (.int .i64 (Pc.chk xs)) ∧ Below w.heap.size w w' := by
  by_cases hm : 60 < xs.length
  · rw [Pc.chk_many hm]
    have hg : decide ((60 : Int) < (xs.length : Int)) = true := decide_eq_true (by omega)
    clear h
    go_enter Try.func52, Try.ntmps52
    go_wp2
    go_ret
    exact ⟨rfl, Below.refl _ _⟩
  · have hg : decide ((60 : Int) < (xs.length : Int)) = false := decide_eq_false (by omega)
    obtain ⟨hI, hq, _⟩ := id h
    have QS := Lib.hid h.bd
    obtain ⟨b, off, hA, hc⟩ : ∃ b off, (0 < xs.length → A = some ⟨b, off, none⟩) ∧ ∀ i, i < xs.length → w.cell? ⟨b, off + i * 4, none⟩ = some (.int .i64 (Pc.at_ xs i).a) ∧ w.cell? ⟨b, off + i * 4 + 1, none⟩ = some (.int .i64 (Pc.at_ xs i).b) ∧ w.cell? ⟨b, off + i * 4 + 2, none⟩ = some (.int .i64 (Pc.at_ xs i).c) ∧ w.cell? ⟨b, off + i * 4 + 3, none⟩ = some (.int .i64 (Pc.at_ xs i).d) := by
      by_cases h0 : 0 < xs.length
      · obtain ⟨b, off, e, k⟩ := hI h0
        exact ⟨b, off, fun _ => e, k⟩
      · exact ⟨0, 0, fun k => absurd k h0, fun i hi => absurd hi (by omega)⟩
    have HC := Lib.hid hc
    have HA := Lib.hid hA
    clear h hI hq hc hA
    go_enter Try.func52, Try.ntmps52
    go_wp2_with fail
    go_loopw [3] (fun i v => ∃ k : Nat, k ≤ xs.length ∧ i = .int .i64 k ∧ (∀ j, j < k → Pc.bad xs j = false) ∧ (∀ j, j < k → Pc.spanB (Pc.at_ xs j) = true) ∧ Below w.heap.size w v) (fun i _ => xs.length - (intOf i).toNat)
    case atStart => exact ⟨0, Nat.zero_le _, rfl, fun j hj => absurd hj (Nat.not_lt_zero _), fun j hj => absurd hj (Nat.not_lt_zero _), Below.refl _ _⟩
    case round =>
      obtain ⟨k, hk, rfl, hok, hsk, hbb⟩ := hrel
      have HOK := Lib.hid hok
      have HSK := Lib.hid hsk
      clear hok hsk
      by_cases hlt : k < xs.length
      · have hA' := HA.out (by omega)
        subst hA'
        obtain ⟨s, hs⟩ : ∃ s, Pc.at_ xs k = s := ⟨_, rfl⟩
        have hsb := QS.out k
        rw [hs] at hsb
        have c0 := keepC hbb (HC.out k hlt).1
        have c1 := keepC hbb (HC.out k hlt).2.1
        have c2 := keepC hbb (HC.out k hlt).2.2.1
        have c3 := keepC hbb (HC.out k hlt).2.2.2
        rw [hs] at c0 c1 c2 c3
        have is := fun v => rValid_any s v hsb
        by_cases hsp : Pc.spanB s = true
        · rcases k with _ | j
          · have EB := Lib.hid (show Pc.bad xs 0 = false by unfold Pc.bad; rw [hs, hsp]; rfl)
            have ES := Lib.hid (show Pc.spanB (Pc.at_ xs 0) = true by rw [hs]; exact hsp)
            have g1 : decide ((0 : Int) < ((0 : Nat) : Int)) = false := rfl
            rw [hsp] at is
            have IS := Lib.hid is
            clear is
            simp only [Nat.zero_mul, Nat.add_zero] at c0 c1 c2 c3
            go_upto_region 6 with fail
            refine at_worldQ (fun v => Below w.heap.size w v ∧ v.cell? ⟨b, off, none⟩ = some (.int .i64 s.a) ∧ v.cell? ⟨b, off + 1, none⟩ = some (.int .i64 s.b) ∧ v.cell? ⟨b, off + 2, none⟩ = some (.int .i64 s.c) ∧ v.cell? ⟨b, off + 3, none⟩ = some (.int .i64 s.d)) ⟨hbb, c0, c1, c2, c3⟩ (fun V hS => ?_)
            clear hbb c0 c1 c2 c3
            obtain ⟨hbb, c0, c1, c2, c3⟩ := hS
            refine wp_region_noPanic ?_
            refine wp_region_held_drew (S := (Below V.heap.size V)) (by kernel_rfl) ((Below.refl _ _).drew) (fun hHeld => ?_)
            refine at_anyH (Below V.heap.size V) hHeld (fun wz0 hNew => ?_)
            clear hHeld
            have hHeld := hNew
            clear hNew
            refine wpAnyH_take (i := 0) (oi := _) (v := ?vz1) rfl (by kernel_rfl) (by kernel_rfl) (by kernel_rfl) (fun _ _ _ h => h) (Or.inl ⟨by kernel_rfl, ?hyz1⟩) hHeld ?restz1
            case hyz1 => (intro w hSw; go_simp; first | done | (with_reducible rfl))
            try simp only [Act.put, List.getElem_toArray, List.getElem_cons_succ, List.getElem_cons_zero, List.setIfInBounds_toArray, List.set_cons_zero, List.set_cons_succ]
            refine wpAnyH_take (i := 1) (oi := _) (v := ?vz2) rfl (by kernel_rfl) (by kernel_rfl) (by kernel_rfl) (fun _ _ _ h => h) (Or.inl ⟨by kernel_rfl, ?hyz2⟩) hHeld ?restz2
            case hyz2 => (intro w hSw; go_simp; first | done | (with_reducible rfl))
            try simp only [Act.put, List.getElem_toArray, List.getElem_cons_succ, List.getElem_cons_zero, List.setIfInBounds_toArray, List.set_cons_zero, List.set_cons_succ]
            refine wpAnyH_take (i := 2) (oi := _) (v := ?vz3) rfl (by kernel_rfl) (by kernel_rfl) (by kernel_rfl) (fun _ _ _ h => h) (Or.inl ⟨by kernel_rfl, ?hyz3⟩) hHeld ?restz3
            case hyz3 => (intro w hSw; go_simp; first | done | (with_reducible rfl))
            try simp only [Act.put, List.getElem_toArray, List.getElem_cons_succ, List.getElem_cons_zero, List.setIfInBounds_toArray, List.set_cons_zero, List.set_cons_succ]
            refine wpAnyH_take (i := 3) (oi := _) (v := ?vz4) rfl (by kernel_rfl) (by kernel_rfl) (by kernel_rfl) (fun _ _ _ h => h) (Or.inl ⟨by kernel_rfl, ?hyz4⟩) hHeld ?restz4
            case hyz4 => (intro w hSw; have kc0 := keepC hSw c0; have kc1 := keepC hSw c1; have kc2 := keepC hSw c2; have kc3 := keepC hSw c3; go_simp; first | done | (with_reducible rfl))
            try simp only [Act.put, List.getElem_toArray, List.getElem_cons_succ, List.getElem_cons_zero, List.setIfInBounds_toArray, List.set_cons_zero, List.set_cons_succ]
            refine wpAnyH_ready (rs := [4]) (by kernel_rfl) (by simp) (AllReadyH.cons (o := _) rfl (fun K hK => ?_) AllReadyH.nil)
            go_simp
            refine (IS.out _).mono ?_
            rintro e wz5 ⟨rfl, hb3⟩
            go_wp2_with fail
            refine hK.out _ _ (keepB hHeld hb3) (fun hNew => ?_)
            clear hb3
            clear hHeld hK K
            have hHeld := hNew
            clear hNew
            try simp only [Act.put, List.getElem_toArray, List.getElem_cons_succ, List.getElem_cons_zero, List.setIfInBounds_toArray, List.set_cons_zero, List.set_cons_succ]
            refine wpAnyH_take (i := 5) (oi := _) (v := ?vz6) rfl (by kernel_rfl) (by kernel_rfl) (by kernel_rfl) (fun _ _ _ h => h) (Or.inl ⟨by kernel_rfl, ?hyz6⟩) hHeld ?restz6
            case hyz6 => (intro w hSw; go_simp; first | done | (with_reducible rfl))
            try simp only [Act.put, List.getElem_toArray, List.getElem_cons_succ, List.getElem_cons_zero, List.setIfInBounds_toArray, List.set_cons_zero, List.set_cons_succ]
            refine wpAnyH_take (i := 6) (oi := _) (v := ?vz7) rfl (by kernel_rfl) (by kernel_rfl) (by kernel_rfl) (fun _ _ _ h => h) (Or.inl ⟨by kernel_rfl, ?hyz7⟩) hHeld ?restz7
            case hyz7 => (intro w hSw; go_simp; first | done | (with_reducible rfl))
            try simp only [Act.put, List.getElem_toArray, List.getElem_cons_succ, List.getElem_cons_zero, List.setIfInBounds_toArray, List.set_cons_zero, List.set_cons_succ]
            refine wpAnyH_take (i := 7) (oi := _) (v := ?vz8) rfl (by kernel_rfl) (by kernel_rfl) (by kernel_rfl) (fun _ _ _ h => h) (Or.inl ⟨by kernel_rfl, ?hyz8⟩) hHeld ?restz8
            case hyz8 => (intro w hSw; go_simp; first | done | (with_reducible rfl))
            try simp only [Act.put, List.getElem_toArray, List.getElem_cons_succ, List.getElem_cons_zero, List.setIfInBounds_toArray, List.set_cons_zero, List.set_cons_succ]
            refine wpAnyH_take (i := 8) (oi := _) (v := ?vz9) rfl (by kernel_rfl) (by kernel_rfl) (by kernel_rfl) (fun _ _ _ h => h) (Or.inl ⟨by kernel_rfl, ?hyz9⟩) hHeld ?restz9
            case hyz9 => (intro w hSw; go_simp; first | done | (with_reducible rfl))
            try simp only [Act.put, List.getElem_toArray, List.getElem_cons_succ, List.getElem_cons_zero, List.setIfInBounds_toArray, List.set_cons_zero, List.set_cons_succ]
            refine wpAnyH_take (i := 9) (oi := _) (v := ?vz10) rfl (by kernel_rfl) (by kernel_rfl) (by kernel_rfl) (fun _ _ _ h => h) (Or.inl ⟨by kernel_rfl, ?hyz10⟩) hHeld ?restz10
            case hyz10 => (intro w hSw; go_simp; first | done | (with_reducible rfl))
            try simp only [Act.put, List.getElem_toArray, List.getElem_cons_succ, List.getElem_cons_zero, List.setIfInBounds_toArray, List.set_cons_zero, List.set_cons_succ]
            refine wpAnyH_take (i := 10) (oi := _) (v := undef) rfl (by kernel_rfl) (by kernel_rfl) (by kernel_rfl) (fun _ _ _ h => h) (Or.inr ⟨by kernel_rfl, rfl⟩) hHeld ?_
            try simp only [Act.put, List.getElem_toArray, List.getElem_cons_succ, List.getElem_cons_zero, List.setIfInBounds_toArray, List.set_cons_zero, List.set_cons_succ]
            refine wpAnyH_take (i := 11) (oi := _) (v := undef) rfl (by kernel_rfl) (by kernel_rfl) (by kernel_rfl) (fun _ _ _ h => h) (Or.inr ⟨by kernel_rfl, rfl⟩) hHeld ?_
            try simp only [Act.put, List.getElem_toArray, List.getElem_cons_succ, List.getElem_cons_zero, List.setIfInBounds_toArray, List.set_cons_zero, List.set_cons_succ]
            refine wpAnyH_take (i := 12) (oi := _) (v := undef) rfl (by kernel_rfl) (by kernel_rfl) (by kernel_rfl) (fun _ _ _ h => h) (Or.inr ⟨by kernel_rfl, rfl⟩) hHeld ?_
            try simp only [Act.put, List.getElem_toArray, List.getElem_cons_succ, List.getElem_cons_zero, List.setIfInBounds_toArray, List.set_cons_zero, List.set_cons_succ]
            refine wpAnyH_take (i := 13) (oi := _) (v := undef) rfl (by kernel_rfl) (by kernel_rfl) (by kernel_rfl) (fun _ _ _ h => h) (Or.inr ⟨by kernel_rfl, rfl⟩) hHeld ?_
            try simp only [Act.put, List.getElem_toArray, List.getElem_cons_succ, List.getElem_cons_zero, List.setIfInBounds_toArray, List.set_cons_zero, List.set_cons_succ]
            refine wpAnyH_take (i := 14) (oi := _) (v := undef) rfl (by kernel_rfl) (by kernel_rfl) (by kernel_rfl) (fun _ _ _ h => h) (Or.inr ⟨by kernel_rfl, rfl⟩) hHeld ?_
            try simp only [Act.put, List.getElem_toArray, List.getElem_cons_succ, List.getElem_cons_zero, List.setIfInBounds_toArray, List.set_cons_zero, List.set_cons_succ]
            refine wpAnyH_take (i := 15) (oi := _) (v := undef) rfl (by kernel_rfl) (by kernel_rfl) (by kernel_rfl) (fun _ _ _ h => h) (Or.inr ⟨by kernel_rfl, rfl⟩) hHeld ?_
            try simp only [Act.put, List.getElem_toArray, List.getElem_cons_succ, List.getElem_cons_zero, List.setIfInBounds_toArray, List.set_cons_zero, List.set_cons_succ]
            refine wpAnyH_take (i := 16) (oi := _) (v := undef) rfl (by kernel_rfl) (by kernel_rfl) (by kernel_rfl) (fun _ _ _ h => h) (Or.inr ⟨by kernel_rfl, rfl⟩) hHeld ?_
            try simp only [Act.put, List.getElem_toArray, List.getElem_cons_succ, List.getElem_cons_zero, List.setIfInBounds_toArray, List.set_cons_zero, List.set_cons_succ]
            refine wpAnyH_take (i := 17) (oi := _) (v := undef) rfl (by kernel_rfl) (by kernel_rfl) (by kernel_rfl) (fun _ _ _ h => h) (Or.inr ⟨by kernel_rfl, rfl⟩) hHeld ?_
            try simp only [Act.put, List.getElem_toArray, List.getElem_cons_succ, List.getElem_cons_zero, List.setIfInBounds_toArray, List.set_cons_zero, List.set_cons_succ]
            refine wpAnyH_take (i := 18) (oi := _) (v := undef) rfl (by kernel_rfl) (by kernel_rfl) (by kernel_rfl) (fun _ _ _ h => h) (Or.inr ⟨by kernel_rfl, rfl⟩) hHeld ?_
            try simp only [Act.put, List.getElem_toArray, List.getElem_cons_succ, List.getElem_cons_zero, List.setIfInBounds_toArray, List.set_cons_zero, List.set_cons_succ]
            refine wpAnyH_take (i := 19) (oi := _) (v := undef) rfl (by kernel_rfl) (by kernel_rfl) (by kernel_rfl) (fun _ _ _ h => h) (Or.inr ⟨by kernel_rfl, rfl⟩) hHeld ?_
            try simp only [Act.put, List.getElem_toArray, List.getElem_cons_succ, List.getElem_cons_zero, List.setIfInBounds_toArray, List.set_cons_zero, List.set_cons_succ]
            refine wpAnyH_take (i := 20) (oi := _) (v := undef) rfl (by kernel_rfl) (by kernel_rfl) (by kernel_rfl) (fun _ _ _ h => h) (Or.inr ⟨by kernel_rfl, rfl⟩) hHeld ?_
            try simp only [Act.put, List.getElem_toArray, List.getElem_cons_succ, List.getElem_cons_zero, List.setIfInBounds_toArray, List.set_cons_zero, List.set_cons_succ]
            refine wpAnyH_take (i := 21) (oi := _) (v := undef) rfl (by kernel_rfl) (by kernel_rfl) (by kernel_rfl) (fun _ _ _ h => h) (Or.inr ⟨by kernel_rfl, rfl⟩) hHeld ?_
            try simp only [Act.put, List.getElem_toArray, List.getElem_cons_succ, List.getElem_cons_zero, List.setIfInBounds_toArray, List.set_cons_zero, List.set_cons_succ]
            refine wpAnyH_take (i := 22) (oi := _) (v := undef) rfl (by kernel_rfl) (by kernel_rfl) (by kernel_rfl) (fun _ _ _ h => h) (Or.inr ⟨by kernel_rfl, rfl⟩) hHeld ?_
            try simp only [Act.put, List.getElem_toArray, List.getElem_cons_succ, List.getElem_cons_zero, List.setIfInBounds_toArray, List.set_cons_zero, List.set_cons_succ]
            refine wpAnyH_take (i := 23) (oi := _) (v := ?vz24) rfl (by kernel_rfl) (by kernel_rfl) (by kernel_rfl) (fun _ _ _ h => h) (Or.inl ⟨by kernel_rfl, ?hyz24⟩) hHeld ?restz24
            case hyz24 => (intro w hSw; go_simp; first | done | (with_reducible rfl))
            try simp only [Act.put, List.getElem_toArray, List.getElem_cons_succ, List.getElem_cons_zero, List.setIfInBounds_toArray, List.set_cons_zero, List.set_cons_succ]
            refine wpAnyH_take (i := 24) (oi := _) (v := ?vz25) rfl (by kernel_rfl) (by kernel_rfl) (by kernel_rfl) (fun _ _ _ h => h) (Or.inl ⟨by kernel_rfl, ?hyz25⟩) hHeld ?restz25
            case hyz25 => (intro w hSw; go_simp; first | done | (with_reducible rfl))
            try simp only [Act.put, List.getElem_toArray, List.getElem_cons_succ, List.getElem_cons_zero, List.setIfInBounds_toArray, List.set_cons_zero, List.set_cons_succ]
            refine wpAnyH_done (by kernel_rfl) ?_ _
            refine NoPanic.normal ?_
            replace hbb := keepB hbb hHeld
            go_wp2_with fail
            go_roundw
            case rel => exact ⟨0 + 1, by omega, by go_num, fun j hj => (Nat.lt_succ_iff_lt_or_eq.1 hj).elim (HOK.out j) (fun e => e ▸ EB.out), fun j hj => (Nat.lt_succ_iff_lt_or_eq.1 hj).elim (HSK.out j) (fun e => e ▸ ES.out), hbb⟩
            case measure => simp [intOf]; omega
          · obtain ⟨t, ht⟩ : ∃ t, Pc.at_ xs j = t := ⟨_, rfl⟩
            have hts := HSK.out j (by omega)
            rw [ht] at hts
            have x2 := keepC hbb (HC.out j (by omega)).2.2.1
            have x3 := keepC hbb (HC.out j (by omega)).2.2.2
            rw [ht] at x2 x3
            have ES := Lib.hid (show Pc.spanB (Pc.at_ xs (j + 1)) = true by rw [hs]; exact hsp)
            have ls := fun v => Less_any t.c t.d s.a s.b (of_decide_eq_true hts).2.1 (of_decide_eq_true hsp).1 v
            have hbd : Pc.bad xs (j + 1) = !decide (Rp.q t.c t.d < Rp.q s.a s.b) := by unfold Pc.bad; rw [hs, hsp, show j + 1 - 1 = j from rfl, ht, Pc.lessB_ok (of_decide_eq_true hts).2.1 (of_decide_eq_true hsp).1]; simp
            have g1 : decide ((0 : Int) < (j : Int) + 1) = true := decide_eq_true (by omega)
            have t4 : IntKind.i64.wrap ((j : Int) + 1 - 1) = (j : Int) := by rw [show (j : Int) + 1 - 1 = j by omega]; exact IntWalk.i64_in _ (by omega)
            have t7 : IntKind.i64.wrap (j : Int) = (j : Int) := IntWalk.i64_in _ (by omega)
            have t5 : (j : Int) < (xs.length : Int) := by omega
            have t8 : (0 : Int) ≤ (j : Int) := by omega
            have t9 : (0 : Int) ≤ (j : Int) + 1 := by omega
            by_cases hle : Rp.q t.c t.d < Rp.q s.a s.b
            · rw [decide_eq_true hle] at ls hbd
              have LS := Lib.hid ls
              have EB := Lib.hid (show Pc.bad xs (j + 1) = false from hbd)
              clear ls hbd hle
              rw [hsp] at is
              have IS := Lib.hid is
              clear is
              go_upto_region 6 with fail
              refine at_worldQ (fun v => Below w.heap.size w v ∧ v.cell? ⟨b, off + (j + 1) * 4, none⟩ = some (.int .i64 s.a) ∧ v.cell? ⟨b, off + (j + 1) * 4 + 1, none⟩ = some (.int .i64 s.b) ∧ v.cell? ⟨b, off + (j + 1) * 4 + 2, none⟩ = some (.int .i64 s.c) ∧ v.cell? ⟨b, off + (j + 1) * 4 + 3, none⟩ = some (.int .i64 s.d) ∧ v.cell? ⟨b, off + j * 4 + 2, none⟩ = some (.int .i64 t.c) ∧ v.cell? ⟨b, off + j * 4 + 3, none⟩ = some (.int .i64 t.d)) ⟨hbb, c0, c1, c2, c3, x2, x3⟩ (fun V hS => ?_)
              clear hbb c0 c1 c2 c3 x2 x3
              obtain ⟨hbb, c0, c1, c2, c3, x2, x3⟩ := hS
              refine wp_region_noPanic ?_
              refine wp_region_held_drew (S := (Below V.heap.size V)) (by kernel_rfl) ((Below.refl _ _).drew) (fun hHeld => ?_)
              refine at_anyH (Below V.heap.size V) hHeld (fun wn0 hNew => ?_)
              clear hHeld
              have hHeld := hNew
              clear hNew
              refine wpAnyH_take (i := 0) (oi := _) (v := ?vn1) rfl (by kernel_rfl) (by kernel_rfl) (by kernel_rfl) (fun _ _ _ h => h) (Or.inl ⟨by kernel_rfl, ?hyn1⟩) hHeld ?restn1
              case hyn1 => (intro w hSw; go_simp; first | done | (with_reducible rfl))
              try simp only [Act.put, List.getElem_toArray, List.getElem_cons_succ, List.getElem_cons_zero, List.setIfInBounds_toArray, List.set_cons_zero, List.set_cons_succ]
              refine wpAnyH_take (i := 1) (oi := _) (v := ?vn2) rfl (by kernel_rfl) (by kernel_rfl) (by kernel_rfl) (fun _ _ _ h => h) (Or.inl ⟨by kernel_rfl, ?hyn2⟩) hHeld ?restn2
              case hyn2 => (intro w hSw; go_simp; first | done | (with_reducible rfl))
              try simp only [Act.put, List.getElem_toArray, List.getElem_cons_succ, List.getElem_cons_zero, List.setIfInBounds_toArray, List.set_cons_zero, List.set_cons_succ]
              refine wpAnyH_take (i := 2) (oi := _) (v := ?vn3) rfl (by kernel_rfl) (by kernel_rfl) (by kernel_rfl) (fun _ _ _ h => h) (Or.inl ⟨by kernel_rfl, ?hyn3⟩) hHeld ?restn3
              case hyn3 => (intro w hSw; go_simp; first | done | (with_reducible rfl))
              try simp only [Act.put, List.getElem_toArray, List.getElem_cons_succ, List.getElem_cons_zero, List.setIfInBounds_toArray, List.set_cons_zero, List.set_cons_succ]
              refine wpAnyH_take (i := 3) (oi := _) (v := ?vn4) rfl (by kernel_rfl) (by kernel_rfl) (by kernel_rfl) (fun _ _ _ h => h) (Or.inl ⟨by kernel_rfl, ?hyn4⟩) hHeld ?restn4
              case hyn4 => (intro w hSw; have kc0 := keepC hSw c0; have kc1 := keepC hSw c1; have kc2 := keepC hSw c2; have kc3 := keepC hSw c3; have kx2 := keepC hSw x2; have kx3 := keepC hSw x3; go_simp; first | done | (with_reducible rfl))
              try simp only [Act.put, List.getElem_toArray, List.getElem_cons_succ, List.getElem_cons_zero, List.setIfInBounds_toArray, List.set_cons_zero, List.set_cons_succ]
              refine wpAnyH_ready (rs := [4]) (by kernel_rfl) (by simp) (AllReadyH.cons (o := _) rfl (fun K hK => ?_) AllReadyH.nil)
              go_simp
              refine (IS.out _).mono ?_
              rintro e wn5 ⟨rfl, hb3⟩
              go_wp2_with fail
              refine hK.out _ _ (keepB hHeld hb3) (fun hNew => ?_)
              clear hb3
              clear hHeld hK K
              have hHeld := hNew
              clear hNew
              try simp only [Act.put, List.getElem_toArray, List.getElem_cons_succ, List.getElem_cons_zero, List.setIfInBounds_toArray, List.set_cons_zero, List.set_cons_succ]
              refine wpAnyH_take (i := 5) (oi := _) (v := ?vn6) rfl (by kernel_rfl) (by kernel_rfl) (by kernel_rfl) (fun _ _ _ h => h) (Or.inl ⟨by kernel_rfl, ?hyn6⟩) hHeld ?restn6
              case hyn6 => (intro w hSw; go_simp; first | done | (with_reducible rfl))
              try simp only [Act.put, List.getElem_toArray, List.getElem_cons_succ, List.getElem_cons_zero, List.setIfInBounds_toArray, List.set_cons_zero, List.set_cons_succ]
              refine wpAnyH_take (i := 6) (oi := _) (v := ?vn7) rfl (by kernel_rfl) (by kernel_rfl) (by kernel_rfl) (fun _ _ _ h => h) (Or.inl ⟨by kernel_rfl, ?hyn7⟩) hHeld ?restn7
              case hyn7 => (intro w hSw; go_simp; first | done | (with_reducible rfl))
              try simp only [Act.put, List.getElem_toArray, List.getElem_cons_succ, List.getElem_cons_zero, List.setIfInBounds_toArray, List.set_cons_zero, List.set_cons_succ]
              refine wpAnyH_take (i := 7) (oi := _) (v := ?vn8) rfl (by kernel_rfl) (by kernel_rfl) (by kernel_rfl) (fun _ _ _ h => h) (Or.inl ⟨by kernel_rfl, ?hyn8⟩) hHeld ?restn8
              case hyn8 => (intro w hSw; go_simp; first | done | (with_reducible rfl))
              try simp only [Act.put, List.getElem_toArray, List.getElem_cons_succ, List.getElem_cons_zero, List.setIfInBounds_toArray, List.set_cons_zero, List.set_cons_succ]
              refine wpAnyH_take (i := 8) (oi := _) (v := ?vn9) rfl (by kernel_rfl) (by kernel_rfl) (by kernel_rfl) (fun _ _ _ h => h) (Or.inl ⟨by kernel_rfl, ?hyn9⟩) hHeld ?restn9
              case hyn9 => (intro w hSw; go_simp; first | done | (with_reducible rfl))
              try simp only [Act.put, List.getElem_toArray, List.getElem_cons_succ, List.getElem_cons_zero, List.setIfInBounds_toArray, List.set_cons_zero, List.set_cons_succ]
              refine wpAnyH_take (i := 9) (oi := _) (v := ?vn10) rfl (by kernel_rfl) (by kernel_rfl) (by kernel_rfl) (fun _ _ _ h => h) (Or.inl ⟨by kernel_rfl, ?hyn10⟩) hHeld ?restn10
              case hyn10 => (intro w hSw; go_simp; first | done | (with_reducible rfl))
              try simp only [Act.put, List.getElem_toArray, List.getElem_cons_succ, List.getElem_cons_zero, List.setIfInBounds_toArray, List.set_cons_zero, List.set_cons_succ]
              refine wpAnyH_take (i := 10) (oi := _) (v := ?vn11) rfl (by kernel_rfl) (by kernel_rfl) (by kernel_rfl) (fun _ _ _ h => h) (Or.inl ⟨by kernel_rfl, ?hyn11⟩) hHeld ?restn11
              case hyn11 => (intro w hSw; go_simp; first | done | (with_reducible rfl))
              try simp only [Act.put, List.getElem_toArray, List.getElem_cons_succ, List.getElem_cons_zero, List.setIfInBounds_toArray, List.set_cons_zero, List.set_cons_succ]
              refine wpAnyH_take (i := 11) (oi := _) (v := ?vn12) rfl (by kernel_rfl) (by kernel_rfl) (by kernel_rfl) (fun _ _ _ h => h) (Or.inl ⟨by kernel_rfl, ?hyn12⟩) hHeld ?restn12
              case hyn12 => (intro w hSw; go_simp; first | done | (with_reducible rfl))
              try simp only [Act.put, List.getElem_toArray, List.getElem_cons_succ, List.getElem_cons_zero, List.setIfInBounds_toArray, List.set_cons_zero, List.set_cons_succ]
              refine wpAnyH_take (i := 12) (oi := _) (v := ?vn13) rfl (by kernel_rfl) (by kernel_rfl) (by kernel_rfl) (fun _ _ _ h => h) (Or.inl ⟨by kernel_rfl, ?hyn13⟩) hHeld ?restn13
              case hyn13 => (intro w hSw; go_simp; first | done | (with_reducible rfl))
              try simp only [Act.put, List.getElem_toArray, List.getElem_cons_succ, List.getElem_cons_zero, List.setIfInBounds_toArray, List.set_cons_zero, List.set_cons_succ]
              refine wpAnyH_take (i := 13) (oi := _) (v := ?vn14) rfl (by kernel_rfl) (by kernel_rfl) (by kernel_rfl) (fun _ _ _ h => h) (Or.inl ⟨by kernel_rfl, ?hyn14⟩) hHeld ?restn14
              case hyn14 => (intro w hSw; go_simp; first | done | (with_reducible rfl))
              try simp only [Act.put, List.getElem_toArray, List.getElem_cons_succ, List.getElem_cons_zero, List.setIfInBounds_toArray, List.set_cons_zero, List.set_cons_succ]
              refine wpAnyH_take (i := 14) (oi := _) (v := ?vn15) rfl (by kernel_rfl) (by kernel_rfl) (by kernel_rfl) (fun _ _ _ h => h) (Or.inl ⟨by kernel_rfl, ?hyn15⟩) hHeld ?restn15
              case hyn15 => (intro w hSw; go_simp; first | done | (with_reducible rfl))
              try simp only [Act.put, List.getElem_toArray, List.getElem_cons_succ, List.getElem_cons_zero, List.setIfInBounds_toArray, List.set_cons_zero, List.set_cons_succ]
              refine wpAnyH_take (i := 15) (oi := _) (v := ?vn16) rfl (by kernel_rfl) (by kernel_rfl) (by kernel_rfl) (fun _ _ _ h => h) (Or.inl ⟨by kernel_rfl, ?hyn16⟩) hHeld ?restn16
              case hyn16 => (intro w hSw; have kc0 := keepC hSw c0; have kc1 := keepC hSw c1; have kc2 := keepC hSw c2; have kc3 := keepC hSw c3; have kx2 := keepC hSw x2; have kx3 := keepC hSw x3; go_simp; first | done | (with_reducible rfl))
              try simp only [Act.put, List.getElem_toArray, List.getElem_cons_succ, List.getElem_cons_zero, List.setIfInBounds_toArray, List.set_cons_zero, List.set_cons_succ]
              refine wpAnyH_take (i := 16) (oi := _) (v := ?vn17) rfl (by kernel_rfl) (by kernel_rfl) (by kernel_rfl) (fun _ _ _ h => h) (Or.inl ⟨by kernel_rfl, ?hyn17⟩) hHeld ?restn17
              case hyn17 => (intro w hSw; go_simp; first | done | (with_reducible rfl))
              try simp only [Act.put, List.getElem_toArray, List.getElem_cons_succ, List.getElem_cons_zero, List.setIfInBounds_toArray, List.set_cons_zero, List.set_cons_succ]
              refine wpAnyH_take (i := 17) (oi := _) (v := ?vn18) rfl (by kernel_rfl) (by kernel_rfl) (by kernel_rfl) (fun _ _ _ h => h) (Or.inl ⟨by kernel_rfl, ?hyn18⟩) hHeld ?restn18
              case hyn18 => (intro w hSw; go_simp; first | done | (with_reducible rfl))
              try simp only [Act.put, List.getElem_toArray, List.getElem_cons_succ, List.getElem_cons_zero, List.setIfInBounds_toArray, List.set_cons_zero, List.set_cons_succ]
              refine wpAnyH_take (i := 18) (oi := _) (v := ?vn19) rfl (by kernel_rfl) (by kernel_rfl) (by kernel_rfl) (fun _ _ _ h => h) (Or.inl ⟨by kernel_rfl, ?hyn19⟩) hHeld ?restn19
              case hyn19 => (intro w hSw; go_simp; first | done | (with_reducible rfl))
              try simp only [Act.put, List.getElem_toArray, List.getElem_cons_succ, List.getElem_cons_zero, List.setIfInBounds_toArray, List.set_cons_zero, List.set_cons_succ]
              refine wpAnyH_take (i := 19) (oi := _) (v := ?vn20) rfl (by kernel_rfl) (by kernel_rfl) (by kernel_rfl) (fun _ _ _ h => h) (Or.inl ⟨by kernel_rfl, ?hyn20⟩) hHeld ?restn20
              case hyn20 => (intro w hSw; go_simp; first | done | (with_reducible rfl))
              try simp only [Act.put, List.getElem_toArray, List.getElem_cons_succ, List.getElem_cons_zero, List.setIfInBounds_toArray, List.set_cons_zero, List.set_cons_succ]
              refine wpAnyH_take (i := 20) (oi := _) (v := ?vn21) rfl (by kernel_rfl) (by kernel_rfl) (by kernel_rfl) (fun _ _ _ h => h) (Or.inl ⟨by kernel_rfl, ?hyn21⟩) hHeld ?restn21
              case hyn21 => (intro w hSw; have kc0 := keepC hSw c0; have kc1 := keepC hSw c1; have kc2 := keepC hSw c2; have kc3 := keepC hSw c3; have kx2 := keepC hSw x2; have kx3 := keepC hSw x3; go_simp; first | done | (with_reducible rfl))
              try simp only [Act.put, List.getElem_toArray, List.getElem_cons_succ, List.getElem_cons_zero, List.setIfInBounds_toArray, List.set_cons_zero, List.set_cons_succ]
              refine wpAnyH_ready (rs := [21]) (by kernel_rfl) (by simp) (AllReadyH.cons (o := _) rfl (fun K hK => ?_) AllReadyH.nil)
              go_simp
              refine (LS.out _).mono ?_
              rintro e wn22 ⟨rfl, hb3⟩
              go_wp2_with fail
              refine hK.out _ _ (keepB hHeld hb3) (fun hNew => ?_)
              clear hb3
              clear hHeld hK K
              have hHeld := hNew
              clear hNew
              try simp only [Act.put, List.getElem_toArray, List.getElem_cons_succ, List.getElem_cons_zero, List.setIfInBounds_toArray, List.set_cons_zero, List.set_cons_succ]
              refine wpAnyH_take (i := 22) (oi := _) (v := ?vn23) rfl (by kernel_rfl) (by kernel_rfl) (by kernel_rfl) (fun _ _ _ h => h) (Or.inl ⟨by kernel_rfl, ?hyn23⟩) hHeld ?restn23
              case hyn23 => (intro w hSw; go_simp; first | done | (with_reducible rfl))
              try simp only [Act.put, List.getElem_toArray, List.getElem_cons_succ, List.getElem_cons_zero, List.setIfInBounds_toArray, List.set_cons_zero, List.set_cons_succ]
              refine wpAnyH_take (i := 23) (oi := _) (v := ?vn24) rfl (by kernel_rfl) (by kernel_rfl) (by kernel_rfl) (fun _ _ _ h => h) (Or.inl ⟨by kernel_rfl, ?hyn24⟩) hHeld ?restn24
              case hyn24 => (intro w hSw; go_simp; first | done | (with_reducible rfl))
              try simp only [Act.put, List.getElem_toArray, List.getElem_cons_succ, List.getElem_cons_zero, List.setIfInBounds_toArray, List.set_cons_zero, List.set_cons_succ]
              refine wpAnyH_take (i := 24) (oi := _) (v := ?vn25) rfl (by kernel_rfl) (by kernel_rfl) (by kernel_rfl) (fun _ _ _ h => h) (Or.inl ⟨by kernel_rfl, ?hyn25⟩) hHeld ?restn25
              case hyn25 => (intro w hSw; go_simp; first | done | (with_reducible rfl))
              try simp only [Act.put, List.getElem_toArray, List.getElem_cons_succ, List.getElem_cons_zero, List.setIfInBounds_toArray, List.set_cons_zero, List.set_cons_succ]
              refine wpAnyH_done (by kernel_rfl) ?_ _
              refine NoPanic.normal ?_
              replace hbb := keepB hbb hHeld
              go_wp2_with fail
              go_roundw
              case rel => exact ⟨j + 1 + 1, by omega, by go_num, fun j hj => (Nat.lt_succ_iff_lt_or_eq.1 hj).elim (HOK.out j) (fun e => e ▸ EB.out), fun j hj => (Nat.lt_succ_iff_lt_or_eq.1 hj).elim (HSK.out j) (fun e => e ▸ ES.out), hbb⟩
              case measure => simp [intOf]; omega
            · rw [decide_eq_false hle] at ls hbd
              have LS := Lib.hid ls
              have EB := Lib.hid (Pc.chk_bad hm hlt hbd)
              clear ls hbd hle
              rw [hsp] at is
              have IS := Lib.hid is
              clear is
              go_upto_region 6 with fail
              refine at_worldQ (fun v => Below w.heap.size w v ∧ v.cell? ⟨b, off + (j + 1) * 4, none⟩ = some (.int .i64 s.a) ∧ v.cell? ⟨b, off + (j + 1) * 4 + 1, none⟩ = some (.int .i64 s.b) ∧ v.cell? ⟨b, off + (j + 1) * 4 + 2, none⟩ = some (.int .i64 s.c) ∧ v.cell? ⟨b, off + (j + 1) * 4 + 3, none⟩ = some (.int .i64 s.d) ∧ v.cell? ⟨b, off + j * 4 + 2, none⟩ = some (.int .i64 t.c) ∧ v.cell? ⟨b, off + j * 4 + 3, none⟩ = some (.int .i64 t.d)) ⟨hbb, c0, c1, c2, c3, x2, x3⟩ (fun V hS => ?_)
              clear hbb c0 c1 c2 c3 x2 x3
              obtain ⟨hbb, c0, c1, c2, c3, x2, x3⟩ := hS
              refine wp_region_noPanic ?_
              refine wp_region_held_drew (S := (Below V.heap.size V)) (by kernel_rfl) ((Below.refl _ _).drew) (fun hHeld => ?_)
              refine at_anyH (Below V.heap.size V) hHeld (fun wm0 hNew => ?_)
              clear hHeld
              have hHeld := hNew
              clear hNew
              refine wpAnyH_take (i := 0) (oi := _) (v := ?vm1) rfl (by kernel_rfl) (by kernel_rfl) (by kernel_rfl) (fun _ _ _ h => h) (Or.inl ⟨by kernel_rfl, ?hym1⟩) hHeld ?restm1
              case hym1 => (intro w hSw; go_simp; first | done | (with_reducible rfl))
              try simp only [Act.put, List.getElem_toArray, List.getElem_cons_succ, List.getElem_cons_zero, List.setIfInBounds_toArray, List.set_cons_zero, List.set_cons_succ]
              refine wpAnyH_take (i := 1) (oi := _) (v := ?vm2) rfl (by kernel_rfl) (by kernel_rfl) (by kernel_rfl) (fun _ _ _ h => h) (Or.inl ⟨by kernel_rfl, ?hym2⟩) hHeld ?restm2
              case hym2 => (intro w hSw; go_simp; first | done | (with_reducible rfl))
              try simp only [Act.put, List.getElem_toArray, List.getElem_cons_succ, List.getElem_cons_zero, List.setIfInBounds_toArray, List.set_cons_zero, List.set_cons_succ]
              refine wpAnyH_take (i := 2) (oi := _) (v := ?vm3) rfl (by kernel_rfl) (by kernel_rfl) (by kernel_rfl) (fun _ _ _ h => h) (Or.inl ⟨by kernel_rfl, ?hym3⟩) hHeld ?restm3
              case hym3 => (intro w hSw; go_simp; first | done | (with_reducible rfl))
              try simp only [Act.put, List.getElem_toArray, List.getElem_cons_succ, List.getElem_cons_zero, List.setIfInBounds_toArray, List.set_cons_zero, List.set_cons_succ]
              refine wpAnyH_take (i := 3) (oi := _) (v := ?vm4) rfl (by kernel_rfl) (by kernel_rfl) (by kernel_rfl) (fun _ _ _ h => h) (Or.inl ⟨by kernel_rfl, ?hym4⟩) hHeld ?restm4
              case hym4 => (intro w hSw; have kc0 := keepC hSw c0; have kc1 := keepC hSw c1; have kc2 := keepC hSw c2; have kc3 := keepC hSw c3; have kx2 := keepC hSw x2; have kx3 := keepC hSw x3; go_simp; first | done | (with_reducible rfl))
              try simp only [Act.put, List.getElem_toArray, List.getElem_cons_succ, List.getElem_cons_zero, List.setIfInBounds_toArray, List.set_cons_zero, List.set_cons_succ]
              refine wpAnyH_ready (rs := [4]) (by kernel_rfl) (by simp) (AllReadyH.cons (o := _) rfl (fun K hK => ?_) AllReadyH.nil)
              go_simp
              refine (IS.out _).mono ?_
              rintro e wm5 ⟨rfl, hb3⟩
              go_wp2_with fail
              refine hK.out _ _ (keepB hHeld hb3) (fun hNew => ?_)
              clear hb3
              clear hHeld hK K
              have hHeld := hNew
              clear hNew
              try simp only [Act.put, List.getElem_toArray, List.getElem_cons_succ, List.getElem_cons_zero, List.setIfInBounds_toArray, List.set_cons_zero, List.set_cons_succ]
              refine wpAnyH_take (i := 5) (oi := _) (v := ?vm6) rfl (by kernel_rfl) (by kernel_rfl) (by kernel_rfl) (fun _ _ _ h => h) (Or.inl ⟨by kernel_rfl, ?hym6⟩) hHeld ?restm6
              case hym6 => (intro w hSw; go_simp; first | done | (with_reducible rfl))
              try simp only [Act.put, List.getElem_toArray, List.getElem_cons_succ, List.getElem_cons_zero, List.setIfInBounds_toArray, List.set_cons_zero, List.set_cons_succ]
              refine wpAnyH_take (i := 6) (oi := _) (v := ?vm7) rfl (by kernel_rfl) (by kernel_rfl) (by kernel_rfl) (fun _ _ _ h => h) (Or.inl ⟨by kernel_rfl, ?hym7⟩) hHeld ?restm7
              case hym7 => (intro w hSw; go_simp; first | done | (with_reducible rfl))
              try simp only [Act.put, List.getElem_toArray, List.getElem_cons_succ, List.getElem_cons_zero, List.setIfInBounds_toArray, List.set_cons_zero, List.set_cons_succ]
              refine wpAnyH_take (i := 7) (oi := _) (v := ?vm8) rfl (by kernel_rfl) (by kernel_rfl) (by kernel_rfl) (fun _ _ _ h => h) (Or.inl ⟨by kernel_rfl, ?hym8⟩) hHeld ?restm8
              case hym8 => (intro w hSw; go_simp; first | done | (with_reducible rfl))
              try simp only [Act.put, List.getElem_toArray, List.getElem_cons_succ, List.getElem_cons_zero, List.setIfInBounds_toArray, List.set_cons_zero, List.set_cons_succ]
              refine wpAnyH_take (i := 8) (oi := _) (v := ?vm9) rfl (by kernel_rfl) (by kernel_rfl) (by kernel_rfl) (fun _ _ _ h => h) (Or.inl ⟨by kernel_rfl, ?hym9⟩) hHeld ?restm9
              case hym9 => (intro w hSw; go_simp; first | done | (with_reducible rfl))
              try simp only [Act.put, List.getElem_toArray, List.getElem_cons_succ, List.getElem_cons_zero, List.setIfInBounds_toArray, List.set_cons_zero, List.set_cons_succ]
              refine wpAnyH_take (i := 9) (oi := _) (v := ?vm10) rfl (by kernel_rfl) (by kernel_rfl) (by kernel_rfl) (fun _ _ _ h => h) (Or.inl ⟨by kernel_rfl, ?hym10⟩) hHeld ?restm10
              case hym10 => (intro w hSw; go_simp; first | done | (with_reducible rfl))
              try simp only [Act.put, List.getElem_toArray, List.getElem_cons_succ, List.getElem_cons_zero, List.setIfInBounds_toArray, List.set_cons_zero, List.set_cons_succ]
              refine wpAnyH_take (i := 10) (oi := _) (v := ?vm11) rfl (by kernel_rfl) (by kernel_rfl) (by kernel_rfl) (fun _ _ _ h => h) (Or.inl ⟨by kernel_rfl, ?hym11⟩) hHeld ?restm11
              case hym11 => (intro w hSw; go_simp; first | done | (with_reducible rfl))
              try simp only [Act.put, List.getElem_toArray, List.getElem_cons_succ, List.getElem_cons_zero, List.setIfInBounds_toArray, List.set_cons_zero, List.set_cons_succ]
              refine wpAnyH_take (i := 11) (oi := _) (v := ?vm12) rfl (by kernel_rfl) (by kernel_rfl) (by kernel_rfl) (fun _ _ _ h => h) (Or.inl ⟨by kernel_rfl, ?hym12⟩) hHeld ?restm12
              case hym12 => (intro w hSw; go_simp; first | done | (with_reducible rfl))
              try simp only [Act.put, List.getElem_toArray, List.getElem_cons_succ, List.getElem_cons_zero, List.setIfInBounds_toArray, List.set_cons_zero, List.set_cons_succ]
              refine wpAnyH_take (i := 12) (oi := _) (v := ?vm13) rfl (by kernel_rfl) (by kernel_rfl) (by kernel_rfl) (fun _ _ _ h => h) (Or.inl ⟨by kernel_rfl, ?hym13⟩) hHeld ?restm13
              case hym13 => (intro w hSw; go_simp; first | done | (with_reducible rfl))
              try simp only [Act.put, List.getElem_toArray, List.getElem_cons_succ, List.getElem_cons_zero, List.setIfInBounds_toArray, List.set_cons_zero, List.set_cons_succ]
              refine wpAnyH_take (i := 13) (oi := _) (v := ?vm14) rfl (by kernel_rfl) (by kernel_rfl) (by kernel_rfl) (fun _ _ _ h => h) (Or.inl ⟨by kernel_rfl, ?hym14⟩) hHeld ?restm14
              case hym14 => (intro w hSw; go_simp; first | done | (with_reducible rfl))
              try simp only [Act.put, List.getElem_toArray, List.getElem_cons_succ, List.getElem_cons_zero, List.setIfInBounds_toArray, List.set_cons_zero, List.set_cons_succ]
              refine wpAnyH_take (i := 14) (oi := _) (v := ?vm15) rfl (by kernel_rfl) (by kernel_rfl) (by kernel_rfl) (fun _ _ _ h => h) (Or.inl ⟨by kernel_rfl, ?hym15⟩) hHeld ?restm15
              case hym15 => (intro w hSw; go_simp; first | done | (with_reducible rfl))
              try simp only [Act.put, List.getElem_toArray, List.getElem_cons_succ, List.getElem_cons_zero, List.setIfInBounds_toArray, List.set_cons_zero, List.set_cons_succ]
              refine wpAnyH_take (i := 15) (oi := _) (v := ?vm16) rfl (by kernel_rfl) (by kernel_rfl) (by kernel_rfl) (fun _ _ _ h => h) (Or.inl ⟨by kernel_rfl, ?hym16⟩) hHeld ?restm16
              case hym16 => (intro w hSw; have kc0 := keepC hSw c0; have kc1 := keepC hSw c1; have kc2 := keepC hSw c2; have kc3 := keepC hSw c3; have kx2 := keepC hSw x2; have kx3 := keepC hSw x3; go_simp; first | done | (with_reducible rfl))
              try simp only [Act.put, List.getElem_toArray, List.getElem_cons_succ, List.getElem_cons_zero, List.setIfInBounds_toArray, List.set_cons_zero, List.set_cons_succ]
              refine wpAnyH_take (i := 16) (oi := _) (v := ?vm17) rfl (by kernel_rfl) (by kernel_rfl) (by kernel_rfl) (fun _ _ _ h => h) (Or.inl ⟨by kernel_rfl, ?hym17⟩) hHeld ?restm17
              case hym17 => (intro w hSw; go_simp; first | done | (with_reducible rfl))
              try simp only [Act.put, List.getElem_toArray, List.getElem_cons_succ, List.getElem_cons_zero, List.setIfInBounds_toArray, List.set_cons_zero, List.set_cons_succ]
              refine wpAnyH_take (i := 17) (oi := _) (v := ?vm18) rfl (by kernel_rfl) (by kernel_rfl) (by kernel_rfl) (fun _ _ _ h => h) (Or.inl ⟨by kernel_rfl, ?hym18⟩) hHeld ?restm18
              case hym18 => (intro w hSw; go_simp; first | done | (with_reducible rfl))
              try simp only [Act.put, List.getElem_toArray, List.getElem_cons_succ, List.getElem_cons_zero, List.setIfInBounds_toArray, List.set_cons_zero, List.set_cons_succ]
              refine wpAnyH_take (i := 18) (oi := _) (v := ?vm19) rfl (by kernel_rfl) (by kernel_rfl) (by kernel_rfl) (fun _ _ _ h => h) (Or.inl ⟨by kernel_rfl, ?hym19⟩) hHeld ?restm19
              case hym19 => (intro w hSw; go_simp; first | done | (with_reducible rfl))
              try simp only [Act.put, List.getElem_toArray, List.getElem_cons_succ, List.getElem_cons_zero, List.setIfInBounds_toArray, List.set_cons_zero, List.set_cons_succ]
              refine wpAnyH_take (i := 19) (oi := _) (v := ?vm20) rfl (by kernel_rfl) (by kernel_rfl) (by kernel_rfl) (fun _ _ _ h => h) (Or.inl ⟨by kernel_rfl, ?hym20⟩) hHeld ?restm20
              case hym20 => (intro w hSw; go_simp; first | done | (with_reducible rfl))
              try simp only [Act.put, List.getElem_toArray, List.getElem_cons_succ, List.getElem_cons_zero, List.setIfInBounds_toArray, List.set_cons_zero, List.set_cons_succ]
              refine wpAnyH_take (i := 20) (oi := _) (v := ?vm21) rfl (by kernel_rfl) (by kernel_rfl) (by kernel_rfl) (fun _ _ _ h => h) (Or.inl ⟨by kernel_rfl, ?hym21⟩) hHeld ?restm21
              case hym21 => (intro w hSw; have kc0 := keepC hSw c0; have kc1 := keepC hSw c1; have kc2 := keepC hSw c2; have kc3 := keepC hSw c3; have kx2 := keepC hSw x2; have kx3 := keepC hSw x3; go_simp; first | done | (with_reducible rfl))
              try simp only [Act.put, List.getElem_toArray, List.getElem_cons_succ, List.getElem_cons_zero, List.setIfInBounds_toArray, List.set_cons_zero, List.set_cons_succ]
              refine wpAnyH_ready (rs := [21]) (by kernel_rfl) (by simp) (AllReadyH.cons (o := _) rfl (fun K hK => ?_) AllReadyH.nil)
              go_simp
              refine (LS.out _).mono ?_
              rintro e wm22 ⟨rfl, hb3⟩
              go_wp2_with fail
              refine hK.out _ _ (keepB hHeld hb3) (fun hNew => ?_)
              clear hb3
              clear hHeld hK K
              have hHeld := hNew
              clear hNew
              try simp only [Act.put, List.getElem_toArray, List.getElem_cons_succ, List.getElem_cons_zero, List.setIfInBounds_toArray, List.set_cons_zero, List.set_cons_succ]
              refine wpAnyH_take (i := 22) (oi := _) (v := ?vm23) rfl (by kernel_rfl) (by kernel_rfl) (by kernel_rfl) (fun _ _ _ h => h) (Or.inl ⟨by kernel_rfl, ?hym23⟩) hHeld ?restm23
              case hym23 => (intro w hSw; go_simp; first | done | (with_reducible rfl))
              try simp only [Act.put, List.getElem_toArray, List.getElem_cons_succ, List.getElem_cons_zero, List.setIfInBounds_toArray, List.set_cons_zero, List.set_cons_succ]
              refine wpAnyH_take (i := 23) (oi := _) (v := ?vm24) rfl (by kernel_rfl) (by kernel_rfl) (by kernel_rfl) (fun _ _ _ h => h) (Or.inl ⟨by kernel_rfl, ?hym24⟩) hHeld ?restm24
              case hym24 => (intro w hSw; go_simp; first | done | (with_reducible rfl))
              try simp only [Act.put, List.getElem_toArray, List.getElem_cons_succ, List.getElem_cons_zero, List.setIfInBounds_toArray, List.set_cons_zero, List.set_cons_succ]
              refine wpAnyH_take (i := 24) (oi := _) (v := ?vm25) rfl (by kernel_rfl) (by kernel_rfl) (by kernel_rfl) (fun _ _ _ h => h) (Or.inl ⟨by kernel_rfl, ?hym25⟩) hHeld ?restm25
              case hym25 => (intro w hSw; go_simp; first | done | (with_reducible rfl))
              try simp only [Act.put, List.getElem_toArray, List.getElem_cons_succ, List.getElem_cons_zero, List.setIfInBounds_toArray, List.set_cons_zero, List.set_cons_succ]
              refine wpAnyH_done (by kernel_rfl) ?_ _
              refine NoPanic.normal ?_
              go_wp2_with fail
              go_ret
              exact ⟨by rw [EB.out]; rfl, keepB hbb hHeld⟩
        · have hsp : Pc.spanB s = false := by simpa using hsp
          have EB := Lib.hid (Pc.chk_bad hm hlt (show Pc.bad xs k = true by unfold Pc.bad; rw [hs, hsp]; rfl))
          rw [hsp] at is
          have IS := Lib.hid is
          clear is
          go_upto_region 6 with fail
          refine at_worldQ (fun v => Below w.heap.size w v ∧ v.cell? ⟨b, off + k * 4, none⟩ = some (.int .i64 s.a) ∧ v.cell? ⟨b, off + k * 4 + 1, none⟩ = some (.int .i64 s.b) ∧ v.cell? ⟨b, off + k * 4 + 2, none⟩ = some (.int .i64 s.c) ∧ v.cell? ⟨b, off + k * 4 + 3, none⟩ = some (.int .i64 s.d)) ⟨hbb, c0, c1, c2, c3⟩ (fun V hS => ?_)
          clear hbb c0 c1 c2 c3
          obtain ⟨hbb, c0, c1, c2, c3⟩ := hS
          refine wp_region_noPanic ?_
          refine wp_region_held_drew (S := (Below V.heap.size V)) (by kernel_rfl) ((Below.refl _ _).drew) (fun hHeld => ?_)
          refine at_anyH (Below V.heap.size V) hHeld (fun wb0 hNew => ?_)
          clear hHeld
          have hHeld := hNew
          clear hNew
          refine wpAnyH_take (i := 0) (oi := _) (v := ?vb1) rfl (by kernel_rfl) (by kernel_rfl) (by kernel_rfl) (fun _ _ _ h => h) (Or.inl ⟨by kernel_rfl, ?hyb1⟩) hHeld ?restb1
          case hyb1 => (intro w hSw; go_simp; first | done | (with_reducible rfl))
          try simp only [Act.put, List.getElem_toArray, List.getElem_cons_succ, List.getElem_cons_zero, List.setIfInBounds_toArray, List.set_cons_zero, List.set_cons_succ]
          refine wpAnyH_take (i := 1) (oi := _) (v := ?vb2) rfl (by kernel_rfl) (by kernel_rfl) (by kernel_rfl) (fun _ _ _ h => h) (Or.inl ⟨by kernel_rfl, ?hyb2⟩) hHeld ?restb2
          case hyb2 => (intro w hSw; go_simp; first | done | (with_reducible rfl))
          try simp only [Act.put, List.getElem_toArray, List.getElem_cons_succ, List.getElem_cons_zero, List.setIfInBounds_toArray, List.set_cons_zero, List.set_cons_succ]
          refine wpAnyH_take (i := 2) (oi := _) (v := ?vb3) rfl (by kernel_rfl) (by kernel_rfl) (by kernel_rfl) (fun _ _ _ h => h) (Or.inl ⟨by kernel_rfl, ?hyb3⟩) hHeld ?restb3
          case hyb3 => (intro w hSw; go_simp; first | done | (with_reducible rfl))
          try simp only [Act.put, List.getElem_toArray, List.getElem_cons_succ, List.getElem_cons_zero, List.setIfInBounds_toArray, List.set_cons_zero, List.set_cons_succ]
          refine wpAnyH_take (i := 3) (oi := _) (v := ?vb4) rfl (by kernel_rfl) (by kernel_rfl) (by kernel_rfl) (fun _ _ _ h => h) (Or.inl ⟨by kernel_rfl, ?hyb4⟩) hHeld ?restb4
          case hyb4 => (intro w hSw; have kc0 := keepC hSw c0; have kc1 := keepC hSw c1; have kc2 := keepC hSw c2; have kc3 := keepC hSw c3; go_simp; first | done | (with_reducible rfl))
          try simp only [Act.put, List.getElem_toArray, List.getElem_cons_succ, List.getElem_cons_zero, List.setIfInBounds_toArray, List.set_cons_zero, List.set_cons_succ]
          refine wpAnyH_ready (rs := [4]) (by kernel_rfl) (by simp) (AllReadyH.cons (o := _) rfl (fun K hK => ?_) AllReadyH.nil)
          go_simp
          refine (IS.out _).mono ?_
          rintro e wb5 ⟨rfl, hb3⟩
          go_wp2_with fail
          refine hK.out _ _ (keepB hHeld hb3) (fun hNew => ?_)
          clear hb3
          clear hHeld hK K
          have hHeld := hNew
          clear hNew
          try simp only [Act.put, List.getElem_toArray, List.getElem_cons_succ, List.getElem_cons_zero, List.setIfInBounds_toArray, List.set_cons_zero, List.set_cons_succ]
          refine wpAnyH_take (i := 5) (oi := _) (v := ?vb6) rfl (by kernel_rfl) (by kernel_rfl) (by kernel_rfl) (fun _ _ _ h => h) (Or.inl ⟨by kernel_rfl, ?hyb6⟩) hHeld ?restb6
          case hyb6 => (intro w hSw; go_simp; first | done | (with_reducible rfl))
          try simp only [Act.put, List.getElem_toArray, List.getElem_cons_succ, List.getElem_cons_zero, List.setIfInBounds_toArray, List.set_cons_zero, List.set_cons_succ]
          refine wpAnyH_take (i := 6) (oi := _) (v := ?vb7) rfl (by kernel_rfl) (by kernel_rfl) (by kernel_rfl) (fun _ _ _ h => h) (Or.inl ⟨by kernel_rfl, ?hyb7⟩) hHeld ?restb7
          case hyb7 => (intro w hSw; go_simp; first | done | (with_reducible rfl))
          try simp only [Act.put, List.getElem_toArray, List.getElem_cons_succ, List.getElem_cons_zero, List.setIfInBounds_toArray, List.set_cons_zero, List.set_cons_succ]
          refine wpAnyH_take (i := 7) (oi := _) (v := undef) rfl (by kernel_rfl) (by kernel_rfl) (by kernel_rfl) (fun _ _ _ h => h) (Or.inr ⟨by kernel_rfl, rfl⟩) hHeld ?_
          try simp only [Act.put, List.getElem_toArray, List.getElem_cons_succ, List.getElem_cons_zero, List.setIfInBounds_toArray, List.set_cons_zero, List.set_cons_succ]
          refine wpAnyH_take (i := 8) (oi := _) (v := undef) rfl (by kernel_rfl) (by kernel_rfl) (by kernel_rfl) (fun _ _ _ h => h) (Or.inr ⟨by kernel_rfl, rfl⟩) hHeld ?_
          try simp only [Act.put, List.getElem_toArray, List.getElem_cons_succ, List.getElem_cons_zero, List.setIfInBounds_toArray, List.set_cons_zero, List.set_cons_succ]
          refine wpAnyH_take (i := 9) (oi := _) (v := undef) rfl (by kernel_rfl) (by kernel_rfl) (by kernel_rfl) (fun _ _ _ h => h) (Or.inr ⟨by kernel_rfl, rfl⟩) hHeld ?_
          try simp only [Act.put, List.getElem_toArray, List.getElem_cons_succ, List.getElem_cons_zero, List.setIfInBounds_toArray, List.set_cons_zero, List.set_cons_succ]
          refine wpAnyH_take (i := 10) (oi := _) (v := undef) rfl (by kernel_rfl) (by kernel_rfl) (by kernel_rfl) (fun _ _ _ h => h) (Or.inr ⟨by kernel_rfl, rfl⟩) hHeld ?_
          try simp only [Act.put, List.getElem_toArray, List.getElem_cons_succ, List.getElem_cons_zero, List.setIfInBounds_toArray, List.set_cons_zero, List.set_cons_succ]
          refine wpAnyH_take (i := 11) (oi := _) (v := undef) rfl (by kernel_rfl) (by kernel_rfl) (by kernel_rfl) (fun _ _ _ h => h) (Or.inr ⟨by kernel_rfl, rfl⟩) hHeld ?_
          try simp only [Act.put, List.getElem_toArray, List.getElem_cons_succ, List.getElem_cons_zero, List.setIfInBounds_toArray, List.set_cons_zero, List.set_cons_succ]
          refine wpAnyH_take (i := 12) (oi := _) (v := undef) rfl (by kernel_rfl) (by kernel_rfl) (by kernel_rfl) (fun _ _ _ h => h) (Or.inr ⟨by kernel_rfl, rfl⟩) hHeld ?_
          try simp only [Act.put, List.getElem_toArray, List.getElem_cons_succ, List.getElem_cons_zero, List.setIfInBounds_toArray, List.set_cons_zero, List.set_cons_succ]
          refine wpAnyH_take (i := 13) (oi := _) (v := undef) rfl (by kernel_rfl) (by kernel_rfl) (by kernel_rfl) (fun _ _ _ h => h) (Or.inr ⟨by kernel_rfl, rfl⟩) hHeld ?_
          try simp only [Act.put, List.getElem_toArray, List.getElem_cons_succ, List.getElem_cons_zero, List.setIfInBounds_toArray, List.set_cons_zero, List.set_cons_succ]
          refine wpAnyH_take (i := 14) (oi := _) (v := undef) rfl (by kernel_rfl) (by kernel_rfl) (by kernel_rfl) (fun _ _ _ h => h) (Or.inr ⟨by kernel_rfl, rfl⟩) hHeld ?_
          try simp only [Act.put, List.getElem_toArray, List.getElem_cons_succ, List.getElem_cons_zero, List.setIfInBounds_toArray, List.set_cons_zero, List.set_cons_succ]
          refine wpAnyH_take (i := 15) (oi := _) (v := undef) rfl (by kernel_rfl) (by kernel_rfl) (by kernel_rfl) (fun _ _ _ h => h) (Or.inr ⟨by kernel_rfl, rfl⟩) hHeld ?_
          try simp only [Act.put, List.getElem_toArray, List.getElem_cons_succ, List.getElem_cons_zero, List.setIfInBounds_toArray, List.set_cons_zero, List.set_cons_succ]
          refine wpAnyH_take (i := 16) (oi := _) (v := undef) rfl (by kernel_rfl) (by kernel_rfl) (by kernel_rfl) (fun _ _ _ h => h) (Or.inr ⟨by kernel_rfl, rfl⟩) hHeld ?_
          try simp only [Act.put, List.getElem_toArray, List.getElem_cons_succ, List.getElem_cons_zero, List.setIfInBounds_toArray, List.set_cons_zero, List.set_cons_succ]
          refine wpAnyH_take (i := 17) (oi := _) (v := undef) rfl (by kernel_rfl) (by kernel_rfl) (by kernel_rfl) (fun _ _ _ h => h) (Or.inr ⟨by kernel_rfl, rfl⟩) hHeld ?_
          try simp only [Act.put, List.getElem_toArray, List.getElem_cons_succ, List.getElem_cons_zero, List.setIfInBounds_toArray, List.set_cons_zero, List.set_cons_succ]
          refine wpAnyH_take (i := 18) (oi := _) (v := undef) rfl (by kernel_rfl) (by kernel_rfl) (by kernel_rfl) (fun _ _ _ h => h) (Or.inr ⟨by kernel_rfl, rfl⟩) hHeld ?_
          try simp only [Act.put, List.getElem_toArray, List.getElem_cons_succ, List.getElem_cons_zero, List.setIfInBounds_toArray, List.set_cons_zero, List.set_cons_succ]
          refine wpAnyH_take (i := 19) (oi := _) (v := undef) rfl (by kernel_rfl) (by kernel_rfl) (by kernel_rfl) (fun _ _ _ h => h) (Or.inr ⟨by kernel_rfl, rfl⟩) hHeld ?_
          try simp only [Act.put, List.getElem_toArray, List.getElem_cons_succ, List.getElem_cons_zero, List.setIfInBounds_toArray, List.set_cons_zero, List.set_cons_succ]
          refine wpAnyH_take (i := 20) (oi := _) (v := undef) rfl (by kernel_rfl) (by kernel_rfl) (by kernel_rfl) (fun _ _ _ h => h) (Or.inr ⟨by kernel_rfl, rfl⟩) hHeld ?_
          try simp only [Act.put, List.getElem_toArray, List.getElem_cons_succ, List.getElem_cons_zero, List.setIfInBounds_toArray, List.set_cons_zero, List.set_cons_succ]
          refine wpAnyH_take (i := 21) (oi := _) (v := undef) rfl (by kernel_rfl) (by kernel_rfl) (by kernel_rfl) (fun _ _ _ h => h) (Or.inr ⟨by kernel_rfl, rfl⟩) hHeld ?_
          try simp only [Act.put, List.getElem_toArray, List.getElem_cons_succ, List.getElem_cons_zero, List.setIfInBounds_toArray, List.set_cons_zero, List.set_cons_succ]
          refine wpAnyH_take (i := 22) (oi := _) (v := undef) rfl (by kernel_rfl) (by kernel_rfl) (by kernel_rfl) (fun _ _ _ h => h) (Or.inr ⟨by kernel_rfl, rfl⟩) hHeld ?_
          try simp only [Act.put, List.getElem_toArray, List.getElem_cons_succ, List.getElem_cons_zero, List.setIfInBounds_toArray, List.set_cons_zero, List.set_cons_succ]
          refine wpAnyH_take (i := 23) (oi := _) (v := undef) rfl (by kernel_rfl) (by kernel_rfl) (by kernel_rfl) (fun _ _ _ h => h) (Or.inr ⟨by kernel_rfl, rfl⟩) hHeld ?_
          try simp only [Act.put, List.getElem_toArray, List.getElem_cons_succ, List.getElem_cons_zero, List.setIfInBounds_toArray, List.set_cons_zero, List.set_cons_succ]
          refine wpAnyH_take (i := 24) (oi := _) (v := ?vb25) rfl (by kernel_rfl) (by kernel_rfl) (by kernel_rfl) (fun _ _ _ h => h) (Or.inl ⟨by kernel_rfl, ?hyb25⟩) hHeld ?restb25
          case hyb25 => (intro w hSw; go_simp; first | done | (with_reducible rfl))
          try simp only [Act.put, List.getElem_toArray, List.getElem_cons_succ, List.getElem_cons_zero, List.setIfInBounds_toArray, List.set_cons_zero, List.set_cons_succ]
          refine wpAnyH_done (by kernel_rfl) ?_ _
          refine NoPanic.normal ?_
          go_wp2_with fail
          go_ret
          exact ⟨by rw [EB.out]; rfl, keepB hbb hHeld⟩
      · obtain rfl : k = xs.length := by omega
        have EB := Lib.hid (Pc.chk_ok hm HOK.out)
        clear HA HC QS HOK HSK
        go_wp2_with fail
        go_ret
        exact ⟨by rw [EB.out]; rfl, hbb⟩
end Go.Proofs.Ytomokdepndclpaa
namespace Go.Proofs.Ytomokdepndclpaa
open Go.RowKit
namespace Pc
/-- A set operation's piece and error. -/
def setS (f : Bool → Bool → Bool) (xs ys : List Raw) : List (Rat × Rat) × Int :=
  if chk xs = 0 then (if chk ys = 0 then ofE (swp f (ends (xs.map toQ)) (ends (ys.map toQ)) false false false) else ([], chk ys)) else ([], chk xs)
theorem setS_first {f : Bool → Bool → Bool} {xs ys : List Raw} (h : chk xs ≠ 0) : setS f xs ys = ([], chk xs) := by unfold setS; rw [if_neg h]
theorem setS_second {f : Bool → Bool → Bool} {xs ys : List Raw} (h : chk xs = 0) (k : chk ys ≠ 0) : setS f xs ys = ([], chk ys) := by unfold setS; rw [if_pos h, if_neg k]
theorem map_toQ_raw (L : List (Rat × Rat)) : (L.map raw).map toQ = L := by
  rw [List.map_map]
  have : (toQ ∘ raw) = id := by
    funext s
    show toQ (raw s) = s
    unfold toQ raw
    simp only [Rp.q_self]
  rw [this, List.map_id]
theorem setS_both {f : Bool → Bool → Bool} {La Lb : List (Rat × Rat)} (h : chk (La.map raw) = 0) (k : chk (Lb.map raw) = 0) : setS f (La.map raw) (Lb.map raw) = ofE (swp f (ends La) (ends Lb) false false false) := by
  unfold setS
  rw [if_pos h, if_pos k, map_toQ_raw, map_toQ_raw]
theorem chg_sub {t : Rat → Bool} : ∀ {l : List Rat} {k : Bool} {r : Rat}, r ∈ chg t l k → r ∈ l
  | [], _, _, h => by simp [chg] at h
  | p :: l, k, r, h => by
    unfold chg at h
    split at h
    · exact List.mem_cons_of_mem _ (chg_sub h)
    · rcases List.mem_cons.1 h with rfl | h
      · simp
      · exact List.mem_cons_of_mem _ (chg_sub h)
theorem chg_len {t : Rat → Bool} : ∀ {l : List Rat} {k : Bool}, (chg t l k).length ≤ l.length
  | [], _ => Nat.le_refl _
  | p :: l, k => by
    unfold chg
    split
    · have := chg_len (t := t) (l := l) (k := k); simp; omega
    · have := chg_len (t := t) (l := l) (k := t p); simp; omega
theorem mrg_len : ∀ (n : Nat) (a b : List Rat), a.length + b.length ≤ n → (mrg a b).length ≤ a.length + b.length := by
  intro n
  induction n with
  | zero => intro a b h; have ha : a = [] := List.eq_nil_of_length_eq_zero (by omega); have hb : b = [] := List.eq_nil_of_length_eq_zero (by omega); subst ha hb; unfold mrg; simp
  | succ n ih =>
    intro a b h
    by_cases k : a = [] ∧ b = []
    · obtain ⟨rfl, rfl⟩ := k; unfold mrg; simp
    · unfold mrg; rw [dif_neg k]
      have hh := near_hit a b k
      have h1 := off_len (near a b) a
      have h2 := off_len (near a b) b
      have hl : (off (near a b) a).length + (off (near a b) b).length + 1 ≤ a.length + b.length := by
        rcases hh with k | k
        · have := off_lt _ _ k; omega
        · have := off_lt _ _ k; omega
      have := ih (off (near a b) a) (off (near a b) b) (by omega)
      rw [List.length_cons]
      omega
theorem swp_fit (f : Bool → Bool → Bool) {La Lb : List (Rat × Rat)} (gA : Good La) (gB : Good Lb) : (∀ r ∈ swp f (ends La) (ends Lb) false false false, Fit r) ∧ (swp f (ends La) (ends Lb) false false false).length ≤ 240 := by
  rw [swp_chg f _ _ _ (Nat.le_refl _) gA.inc gB.inc]
  have l1 := ends_len La
  have l2 := ends_len Lb
  have g1 := gA.len
  have g2 := gB.len
  refine ⟨fun r hr => ?_, ?_⟩
  · have := (mem_mrg _ _ _ (Nat.le_refl _) r).1 (chg_sub hr)
    exact this.elim (gA.fit r) (gB.fit r)
  · refine Nat.le_trans chg_len (Nat.le_trans (mrg_len _ _ _ (Nat.le_refl _)) ?_)
    omega
end Pc
theorem row_cap {w : World} {B : Nat} {e : TypeId} {sz n : Nat} {v : Value} {cs : List Value} (h : w.ownsRow B e sz v n cs) : ∃ A cap, v = .slice A n cap ∧ n ≤ cap := by
  rcases h.2 with ⟨h1, h2⟩ | ⟨g, cap, cur, h1, _, _, h4, _⟩
  · exact ⟨none, 0, by rw [h1, h2], by omega⟩
  · exact ⟨_, _, h1, h4⟩
theorem Acc.rebase0 {w V W : World} {e : TypeId} {sz n : Nat} {v : Value} {cs : List Value} (hb : Below w.heap.size w V) (h : Acc V V.heap.size e sz v n cs W) : Acc w w.heap.size e sz v n cs W :=
  ⟨hb.trans (h.bb.mono hb.size), Nat.le_trans hb.size h.hB, World.ownsRow.mono h.row hb.size⟩
set_option linter.unusedSimpArgs false in
set_option maxHeartbeats 8000000 in
set_option maxRecDepth 100000 in
theorem combine_any (g : FuncId) (f : Bool → Bool → Bool) (hK : ∀ x y v, Calls Try.prog g #[.bool x, .bool y] v fun e w' => e = .returned (.bool (f x y)) ∧ Below v.heap.size v w') (hE : ∀ (x y : Bool) (v : World), Sem.run Try.prog (callFunc g #[.bool x, .bool y]) v = .ok (.enter g #[.bool x, .bool y]) v)
    (A B : Option Addr) (ca cb : Nat) (xs ys : List Raw) (w : World) (ha : IsS w A xs) (hb : IsS w B ys) :
    Calls Try.prog 96 #[.slice A xs.length ca, .slice B ys.length cb, .func (.func g) #[] #[]] w fun e w' => ∃ v, e = .returned (.tuple #[v, .int .i64 (Pc.setS f xs ys).2]) ∧ Acc w w.heap.size 51 4 v (Pc.setS f xs ys).1.length (Pc.cells4 (Pc.setS f xs ys).1) w' := by
  have ck := fun v (hv : Below w.heap.size w v) => pChk_any A ca xs v (ha.keep hv)
  have dk := fun v (hv : Below w.heap.size w v) => pChk_any B cb ys v (hb.keep hv)
  by_cases hx : Pc.chk xs = 0
  · by_cases hy : Pc.chk ys = 0
    · obtain ⟨La, rfl, gA⟩ := Pc.chk_good hx
      obtain ⟨Lb, rfl, gB⟩ := Pc.chk_good hy
      have hs := Pc.swp_fit f gA gB
      rw [Pc.setS_both hx hy]
      rw [hx] at ck
      rw [hy] at dk
      rw [List.length_map] at ck dk ⊢
      rw [List.length_map]
      have CK := Lib.hid ck
      have DK := Lib.hid dk
      have EA := Lib.hid (fun v (hv : Below w.heap.size w v) => endsOf_any A ca La v gA.len (ha.keep hv))
      have EB := Lib.hid (fun v (hv : Below w.heap.size w v) => endsOf_any B cb Lb v gB.len (hb.keep hv))
      have SW := Lib.hid (fun A' B' ca' cb' v h1 h2 h3 h4 => sweep_any A' B' ca' cb' (Pc.ends La) (Pc.ends Lb) g f v hK hE h1 h2 gA.fit gB.fit (by have := Pc.ends_len La; have := Pc.ends_len Lb; have := gA.len; have := gB.len; omega) h3 h4)
      have PO := Lib.hid (fun A' ca' v h1 => pieceOf_any A' ca' (Pc.swp f (Pc.ends La) (Pc.ends Lb) false false false) v (by have := hs.2; omega) hs.1 h1)
      generalize Pc.swp f (Pc.ends La) (Pc.ends Lb) false false false = S at *
      generalize Pc.ofE S = R at *
      clear ck dk hx hy ha hb gA gB hs hK hE
      go_enter Try.func96, Try.ntmps96
      go_wp2_with fail
      refine (CK.out _ (Below.refl _ _)).mono ?_
      rintro e w1 ⟨rfl, hb1⟩
      go_wp2_with fail
      refine (DK.out _ hb1).mono ?_
      rintro e w2 ⟨rfl, hb2⟩
      replace hb2 := keepB hb1 hb2
      clear hb1
      go_wp2_with fail
      refine (EA.out _ hb2).mono ?_
      rintro e w3 ⟨v3, rfl, hv3⟩
      obtain ⟨A3, c3, rfl, hc3⟩ := row_cap hv3.row
      have hb3 := keepB hb2 hv3.bb
      have q3 := isQ_row hv3.row rfl
      clear hv3 hb2
      go_wp2_with fail
      refine (EB.out _ hb3).mono ?_
      rintro e w4 ⟨v4, rfl, hv4⟩
      obtain ⟨A4, c4, rfl, hc4⟩ := row_cap hv4.row
      have hb4 := keepB hb3 hv4.bb
      replace q3 := q3.keep hv4.bb
      have q4 := isQ_row hv4.row rfl
      clear hv4 hb3
      go_wp2_with fail
      refine (SW.out _ _ _ _ _ q3 q4 hc3 hc4).mono ?_
      rintro e w5 ⟨v5, rfl, hv5⟩
      obtain ⟨A5, c5, rfl, hc5⟩ := row_cap hv5.row
      have hb5 := keepB hb4 hv5.bb
      have q5 := isQ_row hv5.row rfl
      clear hv5 hb4 q3 q4
      go_wp2_with fail
      refine (PO.out _ _ _ q5).mono ?_
      rintro e w6 ⟨v6, rfl, hv6⟩
      have hr := Acc.rebase0 hb5 hv6
      clear hv6 q5
      go_wp2_with fail
      go_ret2
      exact ⟨_, rfl, hr⟩
    · rw [Pc.setS_second hx hy]
      rw [hx] at ck
      have n1 : (Pc.chk ys != 0) = true := by rw [bne_iff_ne]; exact hy
      generalize Pc.chk ys = c at *
      have CK := Lib.hid ck
      have DK := Lib.hid dk
      clear ck dk hx hy ha hb hK hE
      go_enter Try.func96, Try.ntmps96
      go_wp2_with fail
      refine (CK.out _ (Below.refl _ _)).mono ?_
      rintro e w1 ⟨rfl, hb1⟩
      go_wp2_with fail
      refine (DK.out _ hb1).mono ?_
      rintro e w2 ⟨rfl, hb2⟩
      replace hb2 := keepB hb1 hb2
      go_wp2_with fail
      go_ret2
      exact ⟨_, rfl, hb2, hb2.size, World.ownsRow_nil _ _ _ _⟩
  · rw [Pc.setS_first hx]
    have n1 : (Pc.chk xs != 0) = true := by rw [bne_iff_ne]; exact hx
    generalize Pc.chk xs = c at *
    have CK := Lib.hid ck
    clear ck dk hx ha hb hK hE
    go_enter Try.func96, Try.ntmps96
    go_wp2_with fail
    refine (CK.out _ (Below.refl _ _)).mono ?_
    rintro e w1 ⟨rfl, hb1⟩
    go_wp2_with fail
    go_ret2
    exact ⟨_, rfl, hb1, hb1.size, World.ownsRow_nil _ _ _ _⟩
set_option maxHeartbeats 1000000 in
theorem pUnion_any (A B : Option Addr) (ca cb : Nat) (xs ys : List Raw) (w : World) (ha : IsS w A xs) (hb : IsS w B ys) :
    Calls Try.prog 35 #[.slice A xs.length ca, .slice B ys.length cb] w fun e w' => ∃ v, e = .returned (.tuple #[v, .int .i64 (Pc.setS (fun x y => x || y) xs ys).2]) ∧ Acc w w.heap.size 51 4 v (Pc.setS (fun x y => x || y) xs ys).1.length (Pc.cells4 (Pc.setS (fun x y => x || y) xs ys).1) w' := by
  have C := Lib.hid (combine_any 97 (fun x y => x || y) peither_any (fun x y v => by go_simp) A B ca cb xs ys w ha hb)
  generalize Pc.setS (fun x y => x || y) xs ys = R at *
  clear ha hb
  go_enter Try.func35, Try.ntmps35
  go_wp2_with fail
  refine C.out.mono ?_
  rintro e w1 ⟨v, rfl, hv⟩
  go_wp2_with fail
  go_ret2
  exact ⟨_, rfl, hv⟩
set_option maxHeartbeats 1000000 in
theorem pMeet_any (A B : Option Addr) (ca cb : Nat) (xs ys : List Raw) (w : World) (ha : IsS w A xs) (hb : IsS w B ys) :
    Calls Try.prog 36 #[.slice A xs.length ca, .slice B ys.length cb] w fun e w' => ∃ v, e = .returned (.tuple #[v, .int .i64 (Pc.setS (fun x y => x && y) xs ys).2]) ∧ Acc w w.heap.size 51 4 v (Pc.setS (fun x y => x && y) xs ys).1.length (Pc.cells4 (Pc.setS (fun x y => x && y) xs ys).1) w' := by
  have C := Lib.hid (combine_any 98 (fun x y => x && y) pboth_any (fun x y v => by go_simp) A B ca cb xs ys w ha hb)
  generalize Pc.setS (fun x y => x && y) xs ys = R at *
  clear ha hb
  go_enter Try.func36, Try.ntmps36
  go_wp2_with fail
  refine C.out.mono ?_
  rintro e w1 ⟨v, rfl, hv⟩
  go_wp2_with fail
  go_ret2
  exact ⟨_, rfl, hv⟩
set_option maxHeartbeats 1000000 in
theorem pMinus_any (A B : Option Addr) (ca cb : Nat) (xs ys : List Raw) (w : World) (ha : IsS w A xs) (hb : IsS w B ys) :
    Calls Try.prog 37 #[.slice A xs.length ca, .slice B ys.length cb] w fun e w' => ∃ v, e = .returned (.tuple #[v, .int .i64 (Pc.setS (fun x y => x && !y) xs ys).2]) ∧ Acc w w.heap.size 51 4 v (Pc.setS (fun x y => x && !y) xs ys).1.length (Pc.cells4 (Pc.setS (fun x y => x && !y) xs ys).1) w' := by
  have C := Lib.hid (combine_any 99 (fun x y => x && !y) ponlyFirst_any (fun x y v => by go_simp) A B ca cb xs ys w ha hb)
  generalize Pc.setS (fun x y => x && !y) xs ys = R at *
  clear ha hb
  go_enter Try.func37, Try.ntmps37
  go_wp2_with fail
  refine C.out.mono ?_
  rintro e w1 ⟨v, rfl, hv⟩
  go_wp2_with fail
  go_ret2
  exact ⟨_, rfl, hv⟩
end Go.Proofs.Ytomokdepndclpaa
