/- Package piece's Cut. -/
import Derived.Test.YtnnpmegknlgkoaaPhas
import Derived.Test.YtnnpmegknlgkoaaAlgm
namespace Go.Proofs.Ytnnpmegknlgkoaa
open Go.RowKit
namespace Pc
def leftE (L : List (Rat × Rat)) (r : Rat) : List Rat := swp (fun x y => x && !y) (ends L) [r] false false false
def rightE (L : List (Rat × Rat)) (r : Rat) : List Rat := swp (fun x y => x && y) (ends L) [r] false false false
/-- Cut's pieces and error. -/
def cutS (xs : List Raw) (n d : Int) : List (Rat × Rat) × List (Rat × Rat) × Int :=
  if chk xs = 0 then (if Rp.Ok n d then (pairs (leftE (xs.map toQ) (Rp.q n d)), pairs (rightE (xs.map toQ) (Rp.q n d)), 0) else ([], [], 2)) else ([], [], chk xs)
theorem inc_one (r : Rat) : Inc [r] := ⟨by simp, trivial⟩
theorem cut_fit (f : Bool → Bool → Bool) {L : List (Rat × Rat)} {r : Rat} (gL : Good L) (hr : Fit r) : (∀ q ∈ swp f (ends L) [r] false false false, Fit q) ∧ (swp f (ends L) [r] false false false).length ≤ 121 := by
  rw [swp_chg f _ _ _ (Nat.le_refl _) gL.inc (inc_one r)]
  have l1 := ends_len L
  have g1 := gL.len
  refine ⟨fun q hq => ?_, ?_⟩
  · rcases (mem_mrg _ _ _ (Nat.le_refl _) q).1 (chg_mem hq) with h | h
    · exact gL.fit q h
    · have : q = r := by simpa using h
      rw [this]; exact hr
  · refine Nat.le_trans chg_len (Nat.le_trans (mrg_len _ _ _ (Nat.le_refl _)) ?_)
    simp
    omega
theorem ofE_few {l : List Rat} (h : l.length ≤ 121) : ofE l = (pairs l, 0) := by unfold ofE; rw [if_neg (by omega)]
end Pc
theorem isQ_bk {w : World} {p : Nat} {r : Rat} (h : BK w p [.int .i64 r.num, .int .i64 (r.den : Int)]) : IsQ w (some ⟨p, 0, none⟩) [r] := fun _ => by
  refine ⟨p, 0, rfl, fun i hi => ?_⟩
  have : i = 0 := by simpa using hi
  subst this
  exact ⟨h.c 0 rfl, h.c 1 rfl⟩
set_option linter.unusedSimpArgs false in
set_option maxHeartbeats 8000000 in
set_option maxRecDepth 100000 in
theorem pCut_any (A : Option Addr) (cap : Nat) (xs : List Raw) (n d : Int) (w : World) (hn : I64 n) (hd : I64 d) (h : IsS w A xs) :
    Calls Try.prog 16 #[.slice A xs.length cap, .agg #[.int .i64 n, .int .i64 d]] w fun e w' => ∃ v1 v2, e = .returned (.tuple #[v1, v2, .int .i64 (Pc.cutS xs n d).2.2]) ∧
      w'.ownsRow w.heap.size 25 4 v1 (Pc.cutS xs n d).1.length (Pc.cells4 (Pc.cutS xs n d).1) ∧ w'.ownsRow w.heap.size 25 4 v2 (Pc.cutS xs n d).2.1.length (Pc.cells4 (Pc.cutS xs n d).2.1) ∧ Below w.heap.size w w' := by
  have ck := fun v (hv : Below w.heap.size w v) => pChk_any A cap xs v (h.keep hv)
  have cr := fun v => check_any n d v hn.1 hn.2 hd.1 hd.2
  by_cases hx : Pc.chk xs = 0
  · rw [hx] at ck
    rcases chk_cases n d with ⟨e, ho⟩ | ⟨e, ho⟩
    · rw [e] at cr
      obtain ⟨L, rfl, gL⟩ := Pc.chk_good hx
      obtain ⟨r, hr⟩ : ∃ r, Rp.q n d = r := ⟨_, rfl⟩
      have hfr : Pc.Fit r := hr ▸ Pc.fit_q ho
      have hv : Pc.cutS (L.map Pc.raw) n d = (Pc.pairs (Pc.leftE L r), Pc.pairs (Pc.rightE L r), 0) := by unfold Pc.cutS; rw [if_pos hx, if_pos ho, Pc.map_toQ_raw, hr]
      rw [hv]
      rw [List.length_map] at ck ⊢
      have en : n = r.num ∧ d = (r.den : Int) := by rw [← hr, Rp.q_num ho, Rp.q_denI ho]; exact ⟨rfl, rfl⟩
      obtain ⟨rfl, rfl⟩ := en
      have EN0 := Lib.hid (fun v (hv : Below w.heap.size w v) => endsOf_any A cap L v gL.len (h.keep hv))
      have k1 : (∀ q ∈ Pc.leftE L r, Pc.Fit q) ∧ (Pc.leftE L r).length ≤ 121 := Pc.cut_fit (fun x y => x && !y) gL hfr
      have k2 : (∀ q ∈ Pc.rightE L r, Pc.Fit q) ∧ (Pc.rightE L r).length ≤ 121 := Pc.cut_fit (fun x y => x && y) gL hfr
      have hel := Pc.ends_len L
      have hgl := gL.len
      have SW1 := Lib.hid (fun A' B' ca' cb' v h1 h2 h3 h4 => sweep_any A' B' ca' cb' (Pc.ends L) [r] 47 (fun x y => x && !y) v ponlyFirst_any (fun x y v => by go_simp) h1 h2 gL.fit (fun q hq => by have : q = r := (by simpa using hq); rw [this]; exact hfr) (by simp; omega) h3 h4)
      have SW2 := Lib.hid (fun A' B' ca' cb' v h1 h2 h3 h4 => sweep_any A' B' ca' cb' (Pc.ends L) [r] 46 (fun x y => x && y) v pboth_any (fun x y v => by go_simp) h1 h2 gL.fit (fun q hq => by have : q = r := (by simpa using hq); rw [this]; exact hfr) (by simp; omega) h3 h4)
      have PO1 := (fun A' ca' v h1 => pieceOf_any A' ca' (Pc.leftE L r) v (by have := k1.2; omega) k1.1 h1)
      have PO2 := (fun A' ca' v h1 => pieceOf_any A' ca' (Pc.rightE L r) v (by have := k2.2; omega) k2.1 h1)
      rw [Pc.ofE_few k1.2] at PO1
      rw [Pc.ofE_few k2.2] at PO2
      have PO1 := Lib.hid PO1
      have PO2 := Lib.hid PO2
      have e1 : Pc.swp (fun x y => x && !y) (Pc.ends L) [r] false false false = Pc.leftE L r := rfl
      have e2 : Pc.swp (fun x y => x && y) (Pc.ends L) [r] false false false = Pc.rightE L r := rfl
      rw [e1] at SW1
      rw [e2] at SW2
      generalize Pc.leftE L r = E1 at *
      generalize Pc.rightE L r = E2 at *
      generalize Pc.pairs E1 = R1 at *
      generalize Pc.pairs E2 = R2 at *
      generalize Pc.ends L = E at *
      have CK := Lib.hid ck
      have CR := Lib.hid cr
      clear ck cr hx hv h gL hfr ho e hn hd e1 e2 k1 k2 hel hgl hr
      go_enter Try.func16, Try.ntmps16
      go_wp2_with fail
      refine (CK.out _ (below_al (Below.refl _ _) _)).mono ?_
      rintro e w1 ⟨rfl, hb1⟩
      have x0 : w1.cell? ⟨w.heap.size, 0, none⟩ = some (.int .i64 r.num) := keepC hb1 (n20 _ _ _ _)
      have x1 : w1.cell? ⟨w.heap.size, 1, none⟩ = some (.int .i64 (r.den : Int)) := keepC hb1 (n21 _ _ _ _)
      have hbb : Below w.heap.size w w1 := keepB (below_al (Below.refl _ _) _) hb1
      clear hb1
      go_wp2_with fail
      refine (CR.out _).mono ?_
      rintro e w2 ⟨rfl, hb2⟩
      replace x0 := keepC hb2 x0
      replace x1 := keepC hb2 x1
      replace hbb := keepB hbb hb2
      clear hb2
      go_upto_region 6 with fail
      refine at_worldQ (fun u => Below w.heap.size w u ∧ u.cell? ⟨w.heap.size, 0, none⟩ = some (.int .i64 r.num) ∧ u.cell? ⟨w.heap.size, 1, none⟩ = some (.int .i64 (r.den : Int))) ⟨hbb, x0, x1⟩ (fun V hS => ?_)
      clear hbb x0 x1
      obtain ⟨hbb, x0, x1⟩ := hS
      have EN := Lib.hid (fun v (hv : Below V.heap.size V v) => EN0.out v (keepB hbb hv))
      go_cut [8, 9] (fun x y u => ∃ (A1 : Option Addr) (c1 P : Nat), x = .slice A1 E.length c1 ∧ y = .slice (some ⟨P, 0, none⟩) 1 1 ∧ E.length ≤ c1 ∧ IsQ u A1 E ∧ BK u P [.int .i64 r.num, .int .i64 (r.den : Int)] ∧ Below V.heap.size V u)
      case first =>
        refine wp_region_held_drew (S := (Below V.heap.size V)) (by kernel_rfl) ((Below.refl _ _).drew) (fun hHeld => ?_)
        refine at_anyH (fun u => Below V.heap.size V u) hHeld (fun W0 hNew => ?_)
        clear hHeld
        have hHeld := hNew
        clear hNew
        refine wpAnyH_take (i := 0) (oi := _) (v := ?vc1) rfl (by kernel_rfl) (by kernel_rfl) (by kernel_rfl) (fun _ _ _ h => h) (Or.inl ⟨by kernel_rfl, ?hyc1⟩) hHeld ?restc1
        case hyc1 => (intro w hSw; go_simp; first | done | (with_reducible rfl))
        try simp only [Act.put, List.getElem_toArray, List.getElem_cons_succ, List.getElem_cons_zero, List.setIfInBounds_toArray, List.set_cons_zero, List.set_cons_succ]
        refine wpAnyH_take (i := 2) (oi := _) (v := ?vc2) rfl (by kernel_rfl) (by kernel_rfl) (by kernel_rfl) (fun _ _ _ h => h) (Or.inl ⟨by kernel_rfl, ?hyc2⟩) hHeld ?restc2
        case hyc2 => (intro w hSw; have kx0 := keepC hSw x0; have kx1 := keepC hSw x1; go_simp; first | done | (with_reducible rfl))
        try simp only [Act.put, List.getElem_toArray, List.getElem_cons_succ, List.getElem_cons_zero, List.setIfInBounds_toArray, List.set_cons_zero, List.set_cons_succ]
        refine wpAnyH_ready (rs := [1, 3]) (by kernel_rfl) (by simp) (AllReadyH.cons (o := _) rfl (fun K hK => ?_) (AllReadyH.cons (o := _) rfl (fun K hK => ?_) AllReadyH.nil))
        ·
          go_simp
          refine (EN.out _ hHeld).mono ?_
          rintro e W2x1 ⟨v1, rfl, hv1⟩
          obtain ⟨A1, c1, rfl, hc1⟩ := row_cap hv1.row
          have q1 := isQ_row hv1.row rfl
          have hb3 := hv1.bb
          clear hv1
          go_wp2_with fail
          refine hK.out _ _ (keepB hHeld hb3) (fun hNew => ?_)
          clear hb3 hHeld hK K
          have hHeld := hNew
          clear hNew
          try simp only [Act.put, List.getElem_toArray, List.getElem_cons_succ, List.getElem_cons_zero, List.setIfInBounds_toArray, List.set_cons_zero, List.set_cons_succ]
          refine wpAnyH_take (i := 4) (oi := _) (v := ?vc4) rfl (by kernel_rfl) (by kernel_rfl) (by kernel_rfl) (fun _ _ _ h => h) (Or.inl ⟨by kernel_rfl, ?hyc4⟩) hHeld ?restc4
          case hyc4 => (intro w hSw; go_simp; first | done | (with_reducible rfl))
          try simp only [Act.put, List.getElem_toArray, List.getElem_cons_succ, List.getElem_cons_zero, List.setIfInBounds_toArray, List.set_cons_zero, List.set_cons_succ]
          refine wpAnyH_ready (rs := [3]) (by kernel_rfl) (by simp) (AllReadyH.cons (o := _) rfl (fun K hK => ?_) AllReadyH.nil)
          go_simp
          refine hK.out _ _ (below_al hHeld _) (fun hNew => ?_)
          have BB := BK.new W2x1 [.int .i64 r.num, .int .i64 (r.den : Int)] 23
          replace q1 := q1.keep (below_al (Below.refl _ _) (.cells #[.int .i64 r.num, .int .i64 (r.den : Int)] 23))
          clear hHeld hK K
          have hHeld := hNew
          clear hNew
          try simp only [Act.put, List.getElem_toArray, List.getElem_cons_succ, List.getElem_cons_zero, List.setIfInBounds_toArray, List.set_cons_zero, List.set_cons_succ]
          refine at_anyH (fun u => Below V.heap.size V u ∧ BK u W2x1.heap.size [.int .i64 r.num, .int .i64 (r.den : Int)] ∧ IsQ u A1 E) ⟨hHeld, BB, q1⟩ (fun W4x3 hS => ?_)
          clear hHeld BB q1
          obtain ⟨hHeld, BB, q1⟩ := hS
          refine wpAnyH_take (i := 5) (oi := _) (v := ?vc6) rfl (by kernel_rfl) (by kernel_rfl) (by kernel_rfl) (fun _ _ _ h => h) (Or.inl ⟨by kernel_rfl, ?hyc6⟩) hHeld ?restc6
          case hyc6 => (intro w hSw; go_simp; first | done | (with_reducible rfl))
          try simp only [Act.put, List.getElem_toArray, List.getElem_cons_succ, List.getElem_cons_zero, List.setIfInBounds_toArray, List.set_cons_zero, List.set_cons_succ]
          refine wpAnyH_done (by kernel_rfl) ?_ _
          go_wp2_with fail
          go_meet
          exact ⟨_, _, _, rfl, rfl, hc1, q1, BB, hHeld⟩
        ·
          go_simp
          refine hK.out _ _ (below_al hHeld _) (fun hNew => ?_)
          have BB := BK.new W0 [.int .i64 r.num, .int .i64 (r.den : Int)] 23
          clear hHeld hK K
          have hHeld := hNew
          clear hNew
          try simp only [Act.put, List.getElem_toArray, List.getElem_cons_succ, List.getElem_cons_zero, List.setIfInBounds_toArray, List.set_cons_zero, List.set_cons_succ]
          refine at_anyH (fun u => Below V.heap.size V u ∧ BK u W0.heap.size [.int .i64 r.num, .int .i64 (r.den : Int)]) ⟨hHeld, BB⟩ (fun W6x3 hS => ?_)
          clear hHeld BB
          obtain ⟨hHeld, BB⟩ := hS
          refine wpAnyH_ready (rs := [1]) (by kernel_rfl) (by simp) (AllReadyH.cons (o := _) rfl (fun K hK => ?_) AllReadyH.nil)
          go_simp
          refine (EN.out _ hHeld).mono ?_
          rintro e W7x1 ⟨v1, rfl, hv1⟩
          obtain ⟨A1, c1, rfl, hc1⟩ := row_cap hv1.row
          have q1 := isQ_row hv1.row rfl
          have hb3 := hv1.bb
          clear hv1
          replace BB := BB.keep hb3
          go_wp2_with fail
          refine hK.out _ _ (keepB hHeld hb3) (fun hNew => ?_)
          clear hb3 hHeld hK K
          have hHeld := hNew
          clear hNew
          try simp only [Act.put, List.getElem_toArray, List.getElem_cons_succ, List.getElem_cons_zero, List.setIfInBounds_toArray, List.set_cons_zero, List.set_cons_succ]
          refine wpAnyH_take (i := 4) (oi := _) (v := ?vc9) rfl (by kernel_rfl) (by kernel_rfl) (by kernel_rfl) (fun _ _ _ h => h) (Or.inl ⟨by kernel_rfl, ?hyc9⟩) hHeld ?restc9
          case hyc9 => (intro w hSw; go_simp; first | done | (with_reducible rfl))
          try simp only [Act.put, List.getElem_toArray, List.getElem_cons_succ, List.getElem_cons_zero, List.setIfInBounds_toArray, List.set_cons_zero, List.set_cons_succ]
          refine wpAnyH_take (i := 5) (oi := _) (v := ?vc10) rfl (by kernel_rfl) (by kernel_rfl) (by kernel_rfl) (fun _ _ _ h => h) (Or.inl ⟨by kernel_rfl, ?hyc10⟩) hHeld ?restc10
          case hyc10 => (intro w hSw; go_simp; first | done | (with_reducible rfl))
          try simp only [Act.put, List.getElem_toArray, List.getElem_cons_succ, List.getElem_cons_zero, List.setIfInBounds_toArray, List.set_cons_zero, List.set_cons_succ]
          refine wpAnyH_done (by kernel_rfl) ?_ _
          go_wp2_with fail
          go_meet
          exact ⟨_, _, _, rfl, rfl, hc1, q1, BB, hHeld⟩
      case rest =>
        obtain ⟨A1, c1, P, rfl, rfl, hc1, q1, BB, hv⟩ := hcut
        replace hbb := keepB hbb hv
        have q2 := isQ_bk BB
        clear hv BB EN EN0 x0 x1
        go_wp2_with fail
        refine (SW1.out _ _ _ _ _ q1 q2 hc1 (by simp)).mono ?_
        rintro e w3 ⟨v3, rfl, hv3⟩
        obtain ⟨A3, c3, rfl, -⟩ := row_cap hv3.row
        have q3 := isQ_row hv3.row rfl
        replace q1 := q1.keep hv3.bb
        replace q2 := q2.keep hv3.bb
        replace hbb := keepB hbb hv3.bb
        clear hv3
        go_wp2_with fail
        refine (PO1.out _ _ _ q3).mono ?_
        rintro e w4 ⟨v4, rfl, hv4⟩
        have r4 := World.ownsRow.mono hv4.row hbb.size
        obtain ⟨A4, c4, rfl, -⟩ := row_cap r4
        replace q1 := q1.keep hv4.bb
        replace q2 := q2.keep hv4.bb
        replace hbb := keepB hbb hv4.bb
        clear hv4 q3
        go_wp2_with fail
        refine (SW2.out _ _ _ _ _ q1 q2 hc1 (by simp)).mono ?_
        rintro e w5 ⟨v5, rfl, hv5⟩
        obtain ⟨A5, c5, rfl, -⟩ := row_cap hv5.row
        have q5 := isQ_row hv5.row rfl
        replace r4 := row_keep r4 hv5.bb
        replace hbb := keepB hbb hv5.bb
        clear hv5 q1 q2
        go_wp2_with fail
        refine (PO2.out _ _ _ q5).mono ?_
        rintro e w6 ⟨v6, rfl, hv6⟩
        have r6 := World.ownsRow.mono hv6.row hbb.size
        obtain ⟨A6, c6, rfl, -⟩ := row_cap r6
        replace r4 := row_keep r4 hv6.bb
        replace hbb := keepB hbb hv6.bb
        clear hv6 q5
        go_wp2_with fail
        go_ret3
        exact ⟨_, _, rfl, r4, r6, hbb⟩
    · rw [e] at cr
      have hv : Pc.cutS xs n d = ([], [], 2) := by unfold Pc.cutS; rw [if_pos hx, if_neg ho]
      rw [hv]
      have CK := Lib.hid ck
      have CR := Lib.hid cr
      clear ck cr hx hv h ho e hn hd
      go_enter Try.func16, Try.ntmps16
      go_wp2_with fail
      refine (CK.out _ (below_al (Below.refl _ _) _)).mono ?_
      rintro e w1 ⟨rfl, hb1⟩
      have x0 : w1.cell? ⟨w.heap.size, 0, none⟩ = some (.int .i64 n) := keepC hb1 (n20 _ _ _ _)
      have x1 : w1.cell? ⟨w.heap.size, 1, none⟩ = some (.int .i64 d) := keepC hb1 (n21 _ _ _ _)
      have hbb : Below w.heap.size w w1 := keepB (below_al (Below.refl _ _) _) hb1
      clear hb1
      go_wp2_with fail
      refine (CR.out _).mono ?_
      rintro e w2 ⟨rfl, hb2⟩
      replace hbb := keepB hbb hb2
      clear hb2 x0 x1
      go_wp2_with fail
      go_ret3
      exact ⟨_, _, rfl, World.ownsRow_nil _ _ _ _, World.ownsRow_nil _ _ _ _, hbb⟩
  · have hv : Pc.cutS xs n d = ([], [], Pc.chk xs) := by unfold Pc.cutS; rw [if_neg hx]
    rw [hv]
    have n1 : (Pc.chk xs != 0) = true := by rw [bne_iff_ne]; exact hx
    generalize Pc.chk xs = c at *
    have CK := Lib.hid ck
    clear ck cr hx hv h hn hd
    go_enter Try.func16, Try.ntmps16
    go_wp2_with fail
    refine (CK.out _ (below_al (Below.refl _ _) _)).mono ?_
    rintro e w1 ⟨rfl, hb1⟩
    have hbb : Below w.heap.size w w1 := keepB (below_al (Below.refl _ _) _) hb1
    clear hb1
    go_wp2_with fail
    go_ret3
    exact ⟨_, _, rfl, World.ownsRow_nil _ _ _ _, World.ownsRow_nil _ _ _ _, hbb⟩
end Go.Proofs.Ytnnpmegknlgkoaa
