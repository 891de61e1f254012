/- The reference of layer 13: Least, Best, Prices. The reference of layer 13: Best, Prices; SameLists of equal lists. -/
import Derived.Test.YtpiolhjiflohgaaAfq
import Derived.Test.YtpiolhjiflohgaaYf
import Derived.Test.YtpiolhjiflohgaaYg
namespace Go.Proofs.Ytpiolhjiflohgaa
open Go.RowKit
set_option maxRecDepth 100000 in
set_option maxHeartbeats 8000000 in
theorem rLeast_any (A : Option Addr) (cv : Nat) (V : List (List Int)) (B : Option Addr) (ca : Nat) (b : List Nat) (w : World) (ok : As.Ok V) (hb : As.Top V b) (hM : IsM w A V) (hI : IsI w B (As.al b)) :
    Calls Try.prog 45 #[.slice A V.length cv, .slice B V.length ca] w fun e w' => e = .returned (.slice (some ⟨w.heap.size, 0, none⟩) V.length V.length) ∧ BF w' w.heap.size V.length (As.el (As.lp V b)) ∧ Below w.heap.size w w' := by
  have n1 := ok.n1
  have n6 := ok.n6
  have MK := ints_make V.length (by omega)
  have MB := bools_make V.length (by omega)
  have HMB := Lib.hid MB
  have HOKV := Lib.hid ok
  have HTOP := Lib.hid hb
  have HM := Lib.hid hM
  have HI := Lib.hid hI
  clear hM hI hb ok MB
  go_enter Try.func45, Try.ntmps45
  go_wp2_with fail
  clear MK
  obtain ⟨p, hp⟩ : ∃ p, w.heap.size = p := ⟨_, rfl⟩
  have HP := Lib.hid hp
  have HB0 := Lib.hid (show BF (w.alloc (.cells (Array.replicate V.length (Value.int .i64 0)) 3)) p V.length (fun j => if j < 0 then As.el (As.lp V b) j else 0) by rw [← hp]; exact (BF.new _ _ _).cong fun k _ => by simp)
  have HWP := Lib.hid (Nat.le_of_eq hp)
  rw [hp]
  clear hp
  go_loopw [6, 7] (fun j _ W => ∃ k : Nat, k ≤ V.length ∧ j = .int .i64 k ∧ BF W p V.length (fun j => if j < k then As.el (As.lp V b) j else 0) ∧ Below w.heap.size w W) (fun j _ _ => V.length - (intOf j).toNat)
  case atStart => exact ⟨0, Nat.zero_le _, rfl, HB0.out, below_al (Below.refl _ _) _⟩
  case round =>
    clear HB0
    obtain ⟨k, hk, rfl, hbf, hbb⟩ := hrel
    by_cases hlt : k < V.length
    · have HLM := Lib.hid (As.lm_succ V b k)
      have HLP := Lib.hid (As.lm_lp HTOP.out hlt)
      have HLN := Lib.hid (fun i => (As.fm_ge (fun i => As.lk V b k V.length (fun _ => false) i) (List.range i) 0).1)
      have HLK := Lib.hid (fun i => @As.lk_bd V b k HOKV.out.bd V.length (fun _ => false) i)
      go_wp2_with fail
      go_loopw [7] (fun i W => ∃ m : Nat, m ≤ V.length ∧ i = .int .i64 m ∧ BF W p V.length (fun j => if j = k then As.lm V b k m else if j < k then As.el (As.lp V b) j else 0) ∧ Below w.heap.size w W) (fun i _ => V.length - (intOf i).toNat)
      case atStart => exact ⟨0, Nat.zero_le _, rfl, hbf.cong (fun j _ => by
        by_cases e : j = k
        · rw [if_pos e, if_neg (by omega)]; rfl
        · rw [if_neg e]), hbb⟩
      case round =>
        clear hbf hbb
        obtain ⟨m, hm, rfl, hbf, hbb⟩ := hrel
        by_cases hltm : m < V.length
        · have x1 := hbf.c hlt
          have x2 := hbf.f hlt
          rw [if_pos rfl] at x1
          have hpl := hbf.lt
          have MB := HMB.out
          have HCL := Lib.hid (fun v (hv : Below w.heap.size w v) g (hg : w.heap.size ≤ g) (hs : BB v g V.length (fun _ => false)) => rLink_any w A cv V B ca b g V.length k HOKV.out HTOP.out HM.out HI.out hg V.length n6 (fun _ => false) m v hv hs hltm rfl (by rw [As.cnt_none]; exact Nat.le_refl _))
          have HNX := Lib.hid (HLM.out m)
          generalize As.lk V b k V.length (fun _ => false) m = L at *
          generalize hq : As.lm V b k m = q at x1 HNX
          have HBF := Lib.hid hbf
          have HBB := Lib.hid hbb
          have HQE := Lib.hid hq
          clear hbf hbb hq
          go_upto_region 8 with fail
          go_region_with (first
            | (go_at_call 48; refine (HCL.out _ (by first | exact below_al HBB.out _ | exact (below_al HBB.out _).drew) _ (by have := HBB.out.size; first | omega | (simp; omega)) (by first | exact BB.new _ _ _ | exact (BB.new wr _ _).keep (Below.refl _ _).drew)).mono ?_; intro e w5 hq; obtain ⟨rfl, hg5, -⟩ := hq; have hbf5 : BF w5 p V.length (fun j => if j = k then As.lm V b k m else if j < k then As.el (As.lp V b) j else 0) := (by first | exact (HBF.out.al _).grown hg5 (by intro e9; injection e9 with e9; omega) | exact ((HBF.out.al _).drew).grown hg5 (by intro e9; injection e9 with e9; omega)); have hbb5 : Below w.heap.size w w5 := (by first | exact below_gby (below_al HBB.out _) hg5 HBB.out.size | exact below_gby (below_al HBB.out _).drew hg5 HBB.out.size); have x1 := hbf5.c hlt; have x2 := hbf5.f hlt; rw [if_pos rfl, HQE.out] at x1; have HBF5 := Lib.hid hbf5; have HBB5 := Lib.hid hbb5; clear hbf5 hbb5 hg5))
          all_goals
            have HNEW := Lib.hid (show BF ((w5.setCell ⟨p, k, none⟩ (.int .i64 (if q < L then L else q)))) p V.length (fun j => if j = k then As.lm V b k (m + 1) else if j < k then As.el (As.lp V b) j else 0) from (HBF5.out.set k _).cong fun j _ => by
              rw [imax, HNX.out]
              by_cases e : j = k
              · rw [if_pos e, if_pos e]
              · rw [if_neg e, if_neg e, if_neg e])
            have HNB := Lib.hid (show Below w.heap.size w (w5.setCell ⟨p, k, none⟩ (.int .i64 (if q < L then L else q))) from HBB5.out.setCell HWP.out _)
            clear x1 x2
            go_wp2_with fail
            go_roundw
            case rel => exact ⟨m + 1, by omega, by go_num, by first | exact HNEW.out | exact HNEW.out.drew, by first | exact HNB.out | exact HNB.out.drew⟩
            case measure => simp [intOf]; omega
        · obtain rfl : m = V.length := by omega
          have HB2 := Lib.hid (hbf.cong (G := fun j => if j < k + 1 then As.el (As.lp V b) j else 0) (fun j _ => by
            by_cases e : j = k
            · rw [if_pos e, if_pos (by omega), e, HLP.out]
            · rw [if_neg e]
              by_cases e2 : j < k
              · rw [if_pos e2, if_pos (by omega)]
              · rw [if_neg e2, if_neg (by omega)]))
          clear hbf
          go_wp2_with fail
          go_roundw
          case rel => exact ⟨k + 1, by omega, by go_num, HB2.out, hbb⟩
          case measure => simp [intOf]; omega
    · obtain rfl : k = V.length := by omega
      have HB2 := Lib.hid (hbf.cong (G := As.el (As.lp V b)) (fun j hj => by rw [if_pos hj]))
      clear hbf
      go_wp2_with fail
      go_ret
      exact ⟨by rw [HP.out]; rfl, by rw [HP.out]; exact HB2.out, hbb⟩
end Go.Proofs.Ytpiolhjiflohgaa
namespace Go.Proofs.Ytpiolhjiflohgaa
open Go.RowKit
set_option maxRecDepth 100000 in
set_option maxHeartbeats 4000000 in
theorem sameLists_eq (A : Option Addr) (ca : Nat) (B : Option Addr) (cb : Nat) (V : List (List Int)) (w : World) (hl : V.length ≤ maxLen) (hA : IsM w A V) (hB : IsM w B V) :
    Calls Try.prog 20 #[.slice A V.length ca, .slice B V.length cb] w fun e w' => e = .returned (.bool true) ∧ Below w.heap.size w w' := by
  unfold maxLen at hl
  have HA := Lib.hid hA
  have HB := Lib.hid hB
  clear hA hB
  have e0 : ((V.length : Int) != V.length) = false := by simp
  go_enter Try.func20, Try.ntmps20
  go_wp2_with fail
  go_loopw [5] (fun i W => ∃ k : Nat, k ≤ V.length ∧ i = .int .i64 k ∧ Below w.heap.size w W) (fun i _ => V.length - (intOf i).toNat)
  case atStart => exact ⟨0, Nat.zero_le _, rfl, Below.refl _ _⟩
  case round =>
    obtain ⟨k, hk, rfl, hbb⟩ := hrel
    by_cases hlt : k < V.length
    · obtain ⟨b1, o1, rfl, h1⟩ := HA.out (by omega)
      obtain ⟨b2, o2, rfl, h2⟩ := HB.out (by omega)
      obtain ⟨R1, c1, k1, hm1, hI1⟩ := h1 k hlt
      obtain ⟨R2, c2, k2, hm2, hI2⟩ := h2 k hlt
      have x1 := keepC hbb k1
      have x2 := keepC hbb k2
      have HS := Lib.hid (fun v (hv : Below w.heap.size w v) => same_eq R1 c1 R2 c2 (V.getD k []) v hm1 (hI1.keep hv) (hI2.keep hv))
      clear h1 h2 k1 k2 hI1 hI2 hm2
      unfold maxLen at hm1
      generalize (V.getD k []).length = q at *
      have i1 : (k : Int) < (V.length : Int) := by omega
      have HBB := Lib.hid hbb
      go_upto_region 6 with fail
      go_region_with (first
        | (go_at_call 27; refine (HS.out _ (by first | exact HBB.out | exact HBB.out.drew)).mono ?_; rintro e w3 ⟨rfl, hb3⟩))
      all_goals
        have hbb3 : Below w.heap.size w w3 := (by first | exact keepB HBB.out hb3 | exact keepB HBB.out.drew hb3)
        clear x1 x2 hb3 hbb
        go_wp2_with fail
        go_roundw
        case rel => exact ⟨k + 1, by omega, by go_num, hbb3⟩
        case measure => simp [intOf]; omega
    · obtain rfl : k = V.length := by omega
      go_wp2_with fail
      go_ret
      exact ⟨rfl, hbb⟩
end Go.Proofs.Ytpiolhjiflohgaa
