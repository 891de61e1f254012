/- Package choose: afterChoice. -/
import Derived.Test.YtnnpmegknlgkoaaGn
namespace Go.Proofs.Ytnnpmegknlgkoaa
open Go.RowKit
set_option linter.unusedSimpArgs false in
set_option maxHeartbeats 8000000 in
set_option maxRecDepth 100000 in
theorem afterChoice_good (A : Option Addr) (ca : Nat) (cs : List CkR) (Q : Option Addr) (qs : List Qr) (cq : Nat) (k : Nat) (st x y : Int) (b : Bool) (j : Nat) (h1 h2 z : Int) (q : Qr) (w : World) (h : IsCs w A cs) (hq : IsQs w Q qs) (hc : Ak.chkS (cs.map Ak.dat) qs.length = 0) (hk : (k = 0 ∧ j = 1) ∨ (k = 1 ∧ j = 0)) (hj : j < cs.length) (hx : I64 x) (hy : I64 y) (hh : Ch.hf (Ak.dAt (cs.map Ak.dat) j) = (h1, h2, 0))
    (hE : Ak.putE (cs.map Ak.dat) qs.length ⟨j, 1, 0, 1, x, y, 0, 0⟩ = 0) (hT : Ak.told (cs.map Ak.dat) ⟨j, 1, 0, 1, x, y, 0, 0⟩ = q) (hm : ∀ v, Calls Try.prog 86 #[.agg #[.int .i64 q.x, .int .i64 q.y], .agg #[.int .i64 h1, .int .i64 h2]] v fun e v' => e = .returned (.tuple #[.int .i64 z, .int .i64 0]) ∧ Below v.heap.size v v') :
    Calls Try.prog 105 #[.agg #[.slice A cs.length ca, .slice Q qs.length cq, .int .i64 k, .int .i64 st, .int .i64 x, .int .i64 y, .bool b]] w (StQ (cs.map Ak.dat) (qs ++ [q]) k 2 x y (decide (0 ≤ z)) w) := by
  have hlc := h.len
  unfold maxLen at hlc
  have vl := fun v (hv : Below w.heap.size w v) => askValue_any A ca cs Q qs cq j 0 1 x y v (h.keep hv) (hq.keep hv) ⟨by omega, by omega⟩ ⟨by decide, by decide⟩ ⟨by decide, by decide⟩ hx hy
  have hf := fun v (hv : Below w.heap.size w v) => chhalf_any A ca cs Q qs.length cq j v (h.keep hv) hq.len hc hj
  rw [hh] at hf
  dsimp only at hf
  have wh := fun v => chwhole_any 0 v
  have co := fun v => chother_any k j (by omega) v
  generalize cs.map Ak.dat = D at *
  obtain ⟨qx, hqx⟩ : ∃ z, q.x = z := ⟨_, rfl⟩
  obtain ⟨qy, hqy⟩ : ∃ z, q.y = z := ⟨_, rfl⟩
  have HQX := Lib.hid hqx
  have HQY := Lib.hid hqy
  rw [hqx, hqy] at hm
  have HE := Lib.hid hE
  have HT := Lib.hid hT
  have VL := Lib.hid vl
  have HF := Lib.hid hf
  have WH := Lib.hid wh
  have CO := Lib.hid co
  have CM := Lib.hid hm
  clear vl hf wh co hE hT h hq hc hh hx hy hj hk hqx hqy hm
  unfold StQ
  go_enter Try.func105, Try.ntmps105
  go_upto_region 1 with fail
  refine at_worldQ (fun v => Below w.heap.size w v ∧ BK v (w.heap.size) [.slice A cs.length ca, .slice Q qs.length cq, .int .i64 k, .int .i64 st, .int .i64 x, .int .i64 y, .bool b] ∧ BK v (w.heap.size + 1) [.slice none 0 0, .slice none 0 0, .int .i64 0, .int .i64 0, .int .i64 0, .int .i64 0, .bool false] ∧ v.heap.size = w.heap.size + 2) ⟨(below_al (below_al (Below.refl _ _) _) _), (by have b := ((BK.new w [.slice A cs.length ca, .slice Q qs.length cq, .int .i64 k, .int .i64 st, .int .i64 x, .int .i64 y, .bool b] 62).al (.cells #[.slice none 0 0, .slice none 0 0, .int .i64 0, .int .i64 0, .int .i64 0, .int .i64 0, .bool false] 62)); simpa only [World.size_alloc] using b), (by have b := (BK.new (w.alloc (.cells #[.slice A cs.length ca, .slice Q qs.length cq, .int .i64 k, .int .i64 st, .int .i64 x, .int .i64 y, .bool b] 62)) [.slice none 0 0, .slice none 0 0, .int .i64 0, .int .i64 0, .int .i64 0, .int .i64 0, .bool false] 62); simpa only [World.size_alloc] using b), by simp only [World.size_alloc]⟩ (fun V hS => ?_)
  obtain ⟨hbb, B0, B1, hVs⟩ := hS
  have p2 := B0.c 2 rfl
  go_wp2_with fail
  refine (CO.out _).mono ?_
  rintro e w1 ⟨rfl, hb⟩
  clear p2
  replace hbb := keepB hbb hb
  replace B0 := B0.keep hb
  replace B1 := B1.keep hb
  have hw1 := hb.size
  clear hb
  go_upto_region 2 with fail
  have hV0 : w.heap.size + 2 ≤ w1.heap.size := by omega
  clear hw1 hVs V
  refine at_worldQ (fun v => Below w.heap.size w v ∧ BK v w.heap.size [.slice A cs.length ca, .slice Q qs.length cq, .int .i64 k, .int .i64 st, .int .i64 x, .int .i64 y, .bool b] ∧ BK v (w.heap.size + 1) [.slice none 0 0, .slice none 0 0, .int .i64 0, .int .i64 0, .int .i64 0, .int .i64 0, .bool false] ∧ w.heap.size + 2 ≤ v.heap.size) ⟨hbb, B0, B1, hV0⟩ (fun V hS => ?_)
  clear hbb B0 B1 hV0
  obtain ⟨hbb, B0, B1, hV0⟩ := hS
  have p0 := B0.c 0 rfl
  have p1 := B0.c 1 rfl
  have p4 := B0.c 4 rfl
  have p5 := B0.c 5 rfl
  go_cut [4, 5] (fun x z v => ∃ (p4 p5 : Nat) (A2 : Option Addr) (m2 ca2 : Nat) (Q2 : Option Addr) (n2 cq2 : Nat) (l2 : List CkR), x = .pointer (some ⟨p4, 0, none⟩) ∧ z = .pointer (some ⟨p5, 0, none⟩) ∧ BK v p4 [.slice A2 m2 ca2, .slice Q2 n2 cq2] ∧ BK v p5 [.int .i64 qx, .int .i64 qy] ∧ V.heap.size ≤ p4 ∧ V.heap.size ≤ p5 ∧ m2 = l2.length ∧ n2 = (qs ++ [q]).length ∧ l2.map Ak.dat = D ∧ FD v V.heap.size A2 ca2 l2 Q2 cq2 (qs ++ [q]) ∧ Below V.heap.size V v)
  case first =>
    as_aux_lemma =>
      refine wp_region_held_drew (S := (GB (fun _ => False) V)) (by kernel_rfl) ((GB.refl _ _).drew) (fun hHeld => ?_)
      refine at_anyH (fun v => GB (fun _ => False) V v) hHeld (fun wc0 hNew => ?_)
      clear hHeld
      have hHeld := hNew
      clear hNew
      refine wpAnyH_take (i := 0) (oi := _) (v := ?vc1) rfl (by kernel_rfl) (by kernel_rfl) (by kernel_rfl) (fun _ _ _ h => h) (Or.inl ⟨by kernel_rfl, ?hyc1⟩) hHeld ?restc1
      case hyc1 => (intro w hSw; go_simp; first | done | (with_reducible rfl))
      try simp only [Act.put, PA, PB]
      refine wpAnyH_take (i := 1) (oi := _) (v := ?vc2) rfl (by kernel_rfl) (by kernel_rfl) (by kernel_rfl) (fun _ _ _ h => h) (Or.inl ⟨by kernel_rfl, ?hyc2⟩) hHeld ?restc2
      case hyc2 => (intro w hSw; have kp0 := hSw.cell (fun h => h) p0; have kp1 := hSw.cell (fun h => h) p1; have kp4 := hSw.cell (fun h => h) p4; have kp5 := hSw.cell (fun h => h) p5; go_simp; first | done | (with_reducible rfl))
      try simp only [Act.put, PA, PB]
      refine wpAnyH_take (i := 2) (oi := _) (v := ?vc3) rfl (by kernel_rfl) (by kernel_rfl) (by kernel_rfl) (fun _ _ _ h => h) (Or.inl ⟨by kernel_rfl, ?hyc3⟩) hHeld ?restc3
      case hyc3 => (intro w hSw; go_simp; first | done | (with_reducible rfl))
      try simp only [Act.put, PA, PB]
      refine wpAnyH_take (i := 4) (oi := _) (v := ?vc4) rfl (by kernel_rfl) (by kernel_rfl) (by kernel_rfl) (fun _ _ _ h => h) (Or.inl ⟨by kernel_rfl, ?hyc4⟩) hHeld ?restc4
      case hyc4 => (intro w hSw; go_simp; first | done | (with_reducible rfl))
      try simp only [Act.put, PA, PB]
      refine wpAnyH_take (i := 5) (oi := _) (v := ?vc5) rfl (by kernel_rfl) (by kernel_rfl) (by kernel_rfl) (fun _ _ _ h => h) (Or.inl ⟨by kernel_rfl, ?hyc5⟩) hHeld ?restc5
      case hyc5 => (intro w hSw; have kp0 := hSw.cell (fun h => h) p0; have kp1 := hSw.cell (fun h => h) p1; have kp4 := hSw.cell (fun h => h) p4; have kp5 := hSw.cell (fun h => h) p5; go_simp; first | done | (with_reducible rfl))
      try simp only [Act.put, PA, PB]
      refine wpAnyH_ready (rs := [3, 11, 12]) (by kernel_rfl) (by simp) (AllReadyH.cons (o := _) rfl (fun K hK => ?_) (AllReadyH.cons (o := _) rfl (fun K hK => ?_) (AllReadyH.cons (o := _) rfl (fun K hK => ?_) AllReadyH.nil)))
      ·
        go_simp
        refine (WH.out _).mono ?_
        rintro e wc6 ⟨rfl, hb3⟩
        go_wp2_with fail
        refine hK.out _ _ (hHeld.below hb3) (fun hNew => ?_)
        clear hb3
        clear hHeld hK K
        have hHeld := hNew
        clear hNew
        try simp only [Act.put, PA, PB]
        refine wpAnyH_ready (rs := [6, 11, 12]) (by kernel_rfl) (by simp) (AllReadyH.cons (o := _) rfl (fun K hK => ?_) (AllReadyH.cons (o := _) rfl (fun K hK => ?_) (AllReadyH.cons (o := _) rfl (fun K hK => ?_) AllReadyH.nil)))
        ·
          go_simp
          refine (VL.out _ (hHeld.toBelow hbb (fun k hk => hk.elim) (by omega))).mono ?_
          rintro e wc7 hput
          obtain ⟨A2, m2, ca2, Q2, n2, cq2, l2, rfl, hb3, hm2, hn2, hd2, hfd⟩ := hput.yes HE.out HT.out
          clear hput
          have HM2 := Lib.hid hm2
          have HN2 := Lib.hid hn2
          have HD2 := Lib.hid hd2
          clear hm2 hn2 hd2
          rw [HQX.out, HQY.out]
          have hm := Mid.refl wc6.heap.size wc7
          have hvw := hHeld.size
          go_wp2_with fail
          refine hK.out _ _ (hHeld.below hb3) (fun hNew => ?_)
          clear hb3
          clear hHeld hK K
          have hHeld := hNew
          clear hNew
          try simp only [Act.put, PA, PB]
          refine wpAnyH_take (i := 7) (oi := _) (v := ?vc8) rfl (by kernel_rfl) (by kernel_rfl) (by kernel_rfl) (fun _ _ _ h => h) (Or.inl ⟨by kernel_rfl, ?hyc8⟩) hHeld ?restc8
          case hyc8 => (intro w hSw; go_simp; first | done | (with_reducible rfl))
          try simp only [Act.put, PA, PB]
          refine wpAnyH_take (i := 8) (oi := _) (v := ?vc9) rfl (by kernel_rfl) (by kernel_rfl) (by kernel_rfl) (fun _ _ _ h => h) (Or.inl ⟨by kernel_rfl, ?hyc9⟩) hHeld ?restc9
          case hyc9 => (intro w hSw; go_simp; first | done | (with_reducible rfl))
          try simp only [Act.put, PA, PB]
          refine wpAnyH_take (i := 9) (oi := _) (v := ?vc10) rfl (by kernel_rfl) (by kernel_rfl) (by kernel_rfl) (fun _ _ _ h => h) (Or.inl ⟨by kernel_rfl, ?hyc10⟩) hHeld ?restc10
          case hyc10 => (intro w hSw; go_simp; first | done | (with_reducible rfl))
          try simp only [Act.put, PA, PB]
          refine wpAnyH_take (i := 10) (oi := _) (v := ?vc11) rfl (by kernel_rfl) (by kernel_rfl) (by kernel_rfl) (fun _ _ _ h => h) (Or.inl ⟨by kernel_rfl, ?hyc11⟩) hHeld ?restc11
          case hyc11 => (intro w hSw; go_simp; first | done | (with_reducible rfl))
          try simp only [Act.put, PA, PB]
          refine wpAnyH_ready (rs := [11, 12]) (by kernel_rfl) (by simp) (AllReadyH.cons (o := _) rfl (fun K hK => ?_) (AllReadyH.cons (o := _) rfl (fun K hK => ?_) AllReadyH.nil))
          ·
            go_simp
            refine hK.out _ _ (hHeld.al _) (fun hNew => ?_)
            have hX : V.heap.size ≤ wc7.heap.size := hHeld.size
            clear hHeld hK K
            have hHeld := hNew
            clear hNew
            try simp only [Act.put, PA, PB]
            have gXhm := hm.size
            refine at_anyH (fun v => GB (fun _ => False) V v ∧ BK v (wc7.heap.size) [.slice none 0 0, .slice none 0 0] ∧ Mid wc6.heap.size wc7 v) ⟨hHeld, BK.new _ _ _, hm.al _⟩ (fun wc12 hS => ?_)
            clear hHeld hm
            obtain ⟨hHeld, BX, hm⟩ := hS
            refine wpAnyH_ready (rs := [12]) (by kernel_rfl) (by simp) (AllReadyH.cons (o := _) rfl (fun K hK => ?_) AllReadyH.nil)
            go_simp
            refine hK.out _ _ (hHeld.al _) (fun hNew => ?_)
            have hY : V.heap.size ≤ wc12.heap.size := hHeld.size
            have dXY := BX.lt
            clear hHeld hK K
            have hHeld := hNew
            clear hNew
            try simp only [Act.put, PA, PB]
            have gYhm := hm.size
            refine at_anyH (fun v => GB (fun _ => False) V v ∧ BK v (wc7.heap.size) [.slice none 0 0, .slice none 0 0] ∧ BK v (wc12.heap.size) [.int .i64 0, .int .i64 0] ∧ Mid wc6.heap.size wc7 v) ⟨hHeld, BX.al _, BK.new _ _ _, hm.al _⟩ (fun wc13 hS => ?_)
            clear hHeld BX hm
            obtain ⟨hHeld, BX, BY, hm⟩ := hS
            refine wpAnyH_ready (rs := [13]) (by kernel_rfl) (by simp) (AllReadyH.cons (o := _) rfl (fun K hK => ?_) AllReadyH.nil)
            have n0 := BX.c 0 rfl
            have f0 := BX.f 0 rfl
            have n1 := BX.c 1 rfl
            have f1 := BX.f 1 rfl
            go_simp
            clear n0 f0 n1 f1
            refine hK.out _ _ ((hHeld.set (.inr hX) _).set (.inr hX) _) (fun hNew => ?_)
            clear hHeld hK K
            have hHeld := hNew
            clear hNew
            try simp only [Act.put, PA, PB]
            refine at_anyH (fun v => GB (fun _ => False) V v ∧ BK v (wc7.heap.size) [.slice A2 m2 ca2, .slice Q2 n2 cq2] ∧ BK v (wc12.heap.size) [.int .i64 0, .int .i64 0] ∧ Mid wc6.heap.size wc7 v) ⟨hHeld, ((BX.set 0 _).set 1 _), ((BY.far (by omega) _ _).far (by omega) _ _), ((hm.set (by omega) _).set (by omega) _)⟩ (fun wc14 hS => ?_)
            clear hHeld BX BY hm
            obtain ⟨hHeld, BX, BY, hm⟩ := hS
            refine wpAnyH_ready (rs := [14]) (by kernel_rfl) (by simp) (AllReadyH.cons (o := _) rfl (fun K hK => ?_) AllReadyH.nil)
            have n0 := BY.c 0 rfl
            have f0 := BY.f 0 rfl
            have n1 := BY.c 1 rfl
            have f1 := BY.f 1 rfl
            go_simp
            clear n0 f0 n1 f1
            refine hK.out _ _ ((hHeld.set (.inr hY) _).set (.inr hY) _) (fun hNew => ?_)
            clear hHeld hK K
            have hHeld := hNew
            clear hNew
            try simp only [Act.put, PA, PB]
            refine at_anyH (fun v => GB (fun _ => False) V v ∧ BK v (wc7.heap.size) [.slice A2 m2 ca2, .slice Q2 n2 cq2] ∧ BK v (wc12.heap.size) [.int .i64 qx, .int .i64 qy] ∧ Mid wc6.heap.size wc7 v) ⟨hHeld, ((BX.far (by omega) _ _).far (by omega) _ _), ((BY.set 0 _).set 1 _), ((hm.set (by omega) _).set (by omega) _)⟩ (fun wc15 hS => ?_)
            clear hHeld BX BY hm
            obtain ⟨hHeld, BX, BY, hm⟩ := hS
            refine wpAnyH_take (i := 15) (oi := _) (v := ?vc16) rfl (by kernel_rfl) (by kernel_rfl) (by kernel_rfl) (fun _ _ _ h => h) (Or.inl ⟨by kernel_rfl, ?hyc16⟩) hHeld ?restc16
            case hyc16 => (intro w hSw; go_simp; first | done | (with_reducible rfl))
            try simp only [Act.put, PA, PB]
            refine wpAnyH_done (by kernel_rfl) ?_ _
            go_wp2_with fail
            go_meet
            exact ⟨_, _, A2, m2, ca2, Q2, n2, cq2, l2, rfl, rfl, BX, BY, hX, hY, HM2.out, HN2.out, HD2.out, (hfd.mid hm).mono hvw, hHeld.toBelow (Below.refl _ _) (fun k hk => hk.elim) (Nat.le_refl _)⟩
          ·
            go_simp
            refine hK.out _ _ (hHeld.al _) (fun hNew => ?_)
            have hY : V.heap.size ≤ wc7.heap.size := hHeld.size
            clear hHeld hK K
            have hHeld := hNew
            clear hNew
            try simp only [Act.put, PA, PB]
            have gYhm := hm.size
            refine at_anyH (fun v => GB (fun _ => False) V v ∧ BK v (wc7.heap.size) [.int .i64 0, .int .i64 0] ∧ Mid wc6.heap.size wc7 v) ⟨hHeld, BK.new _ _ _, hm.al _⟩ (fun wc17 hS => ?_)
            clear hHeld hm
            obtain ⟨hHeld, BY, hm⟩ := hS
            refine wpAnyH_ready (rs := [11]) (by kernel_rfl) (by simp) (AllReadyH.cons (o := _) rfl (fun K hK => ?_) AllReadyH.nil)
            go_simp
            refine hK.out _ _ (hHeld.al _) (fun hNew => ?_)
            have hX : V.heap.size ≤ wc17.heap.size := hHeld.size
            have dYX := BY.lt
            clear hHeld hK K
            have hHeld := hNew
            clear hNew
            try simp only [Act.put, PA, PB]
            have gXhm := hm.size
            refine at_anyH (fun v => GB (fun _ => False) V v ∧ BK v (wc7.heap.size) [.int .i64 0, .int .i64 0] ∧ BK v (wc17.heap.size) [.slice none 0 0, .slice none 0 0] ∧ Mid wc6.heap.size wc7 v) ⟨hHeld, BY.al _, BK.new _ _ _, hm.al _⟩ (fun wc18 hS => ?_)
            clear hHeld BY hm
            obtain ⟨hHeld, BY, BX, hm⟩ := hS
            refine wpAnyH_ready (rs := [13]) (by kernel_rfl) (by simp) (AllReadyH.cons (o := _) rfl (fun K hK => ?_) AllReadyH.nil)
            have n0 := BX.c 0 rfl
            have f0 := BX.f 0 rfl
            have n1 := BX.c 1 rfl
            have f1 := BX.f 1 rfl
            go_simp
            clear n0 f0 n1 f1
            refine hK.out _ _ ((hHeld.set (.inr hX) _).set (.inr hX) _) (fun hNew => ?_)
            clear hHeld hK K
            have hHeld := hNew
            clear hNew
            try simp only [Act.put, PA, PB]
            refine at_anyH (fun v => GB (fun _ => False) V v ∧ BK v (wc7.heap.size) [.int .i64 0, .int .i64 0] ∧ BK v (wc17.heap.size) [.slice A2 m2 ca2, .slice Q2 n2 cq2] ∧ Mid wc6.heap.size wc7 v) ⟨hHeld, ((BY.far (by omega) _ _).far (by omega) _ _), ((BX.set 0 _).set 1 _), ((hm.set (by omega) _).set (by omega) _)⟩ (fun wc19 hS => ?_)
            clear hHeld BY BX hm
            obtain ⟨hHeld, BY, BX, hm⟩ := hS
            refine wpAnyH_ready (rs := [14]) (by kernel_rfl) (by simp) (AllReadyH.cons (o := _) rfl (fun K hK => ?_) AllReadyH.nil)
            have n0 := BY.c 0 rfl
            have f0 := BY.f 0 rfl
            have n1 := BY.c 1 rfl
            have f1 := BY.f 1 rfl
            go_simp
            clear n0 f0 n1 f1
            refine hK.out _ _ ((hHeld.set (.inr hY) _).set (.inr hY) _) (fun hNew => ?_)
            clear hHeld hK K
            have hHeld := hNew
            clear hNew
            try simp only [Act.put, PA, PB]
            refine at_anyH (fun v => GB (fun _ => False) V v ∧ BK v (wc7.heap.size) [.int .i64 qx, .int .i64 qy] ∧ BK v (wc17.heap.size) [.slice A2 m2 ca2, .slice Q2 n2 cq2] ∧ Mid wc6.heap.size wc7 v) ⟨hHeld, ((BY.set 0 _).set 1 _), ((BX.far (by omega) _ _).far (by omega) _ _), ((hm.set (by omega) _).set (by omega) _)⟩ (fun wc20 hS => ?_)
            clear hHeld BY BX hm
            obtain ⟨hHeld, BY, BX, hm⟩ := hS
            refine wpAnyH_take (i := 15) (oi := _) (v := ?vc21) rfl (by kernel_rfl) (by kernel_rfl) (by kernel_rfl) (fun _ _ _ h => h) (Or.inl ⟨by kernel_rfl, ?hyc21⟩) hHeld ?restc21
            case hyc21 => (intro w hSw; go_simp; first | done | (with_reducible rfl))
            try simp only [Act.put, PA, PB]
            refine wpAnyH_done (by kernel_rfl) ?_ _
            go_wp2_with fail
            go_meet
            exact ⟨_, _, A2, m2, ca2, Q2, n2, cq2, l2, rfl, rfl, BX, BY, hX, hY, HM2.out, HN2.out, HD2.out, (hfd.mid hm).mono hvw, hHeld.toBelow (Below.refl _ _) (fun k hk => hk.elim) (Nat.le_refl _)⟩
        ·
          go_simp
          refine hK.out _ _ (hHeld.al _) (fun hNew => ?_)
          have hX : V.heap.size ≤ wc6.heap.size := hHeld.size
          clear hHeld hK K
          have hHeld := hNew
          clear hNew
          try simp only [Act.put, PA, PB]
          refine at_anyH (fun v => GB (fun _ => False) V v ∧ BK v (wc6.heap.size) [.slice none 0 0, .slice none 0 0]) ⟨hHeld, BK.new _ _ _⟩ (fun wc22 hS => ?_)
          clear hHeld
          obtain ⟨hHeld, BX⟩ := hS
          refine wpAnyH_ready (rs := [6, 12]) (by kernel_rfl) (by simp) (AllReadyH.cons (o := _) rfl (fun K hK => ?_) (AllReadyH.cons (o := _) rfl (fun K hK => ?_) AllReadyH.nil))
          ·
            go_simp
            refine (VL.out _ (hHeld.toBelow hbb (fun k hk => hk.elim) (by omega))).mono ?_
            rintro e wc23 hput
            obtain ⟨A2, m2, ca2, Q2, n2, cq2, l2, rfl, hb3, hm2, hn2, hd2, hfd⟩ := hput.yes HE.out HT.out
            clear hput
            have HM2 := Lib.hid hm2
            have HN2 := Lib.hid hn2
            have HD2 := Lib.hid hd2
            clear hm2 hn2 hd2
            rw [HQX.out, HQY.out]
            have hm := Mid.refl wc22.heap.size wc23
            have hvw := hHeld.size
            go_wp2_with fail
            refine hK.out _ _ (hHeld.below hb3) (fun hNew => ?_)
            have cX := BX.lt
            replace BX := BX.keep hb3
            clear hb3
            clear hHeld hK K
            have hHeld := hNew
            clear hNew
            try simp only [Act.put, PA, PB]
            refine wpAnyH_take (i := 7) (oi := _) (v := ?vc24) rfl (by kernel_rfl) (by kernel_rfl) (by kernel_rfl) (fun _ _ _ h => h) (Or.inl ⟨by kernel_rfl, ?hyc24⟩) hHeld ?restc24
            case hyc24 => (intro w hSw; go_simp; first | done | (with_reducible rfl))
            try simp only [Act.put, PA, PB]
            refine wpAnyH_take (i := 8) (oi := _) (v := ?vc25) rfl (by kernel_rfl) (by kernel_rfl) (by kernel_rfl) (fun _ _ _ h => h) (Or.inl ⟨by kernel_rfl, ?hyc25⟩) hHeld ?restc25
            case hyc25 => (intro w hSw; go_simp; first | done | (with_reducible rfl))
            try simp only [Act.put, PA, PB]
            refine wpAnyH_take (i := 9) (oi := _) (v := ?vc26) rfl (by kernel_rfl) (by kernel_rfl) (by kernel_rfl) (fun _ _ _ h => h) (Or.inl ⟨by kernel_rfl, ?hyc26⟩) hHeld ?restc26
            case hyc26 => (intro w hSw; go_simp; first | done | (with_reducible rfl))
            try simp only [Act.put, PA, PB]
            refine wpAnyH_take (i := 10) (oi := _) (v := ?vc27) rfl (by kernel_rfl) (by kernel_rfl) (by kernel_rfl) (fun _ _ _ h => h) (Or.inl ⟨by kernel_rfl, ?hyc27⟩) hHeld ?restc27
            case hyc27 => (intro w hSw; go_simp; first | done | (with_reducible rfl))
            try simp only [Act.put, PA, PB]
            refine wpAnyH_ready (rs := [12]) (by kernel_rfl) (by simp) (AllReadyH.cons (o := _) rfl (fun K hK => ?_) AllReadyH.nil)
            go_simp
            refine hK.out _ _ (hHeld.al _) (fun hNew => ?_)
            have hY : V.heap.size ≤ wc23.heap.size := hHeld.size
            have dXY := BX.lt
            clear hHeld hK K
            have hHeld := hNew
            clear hNew
            try simp only [Act.put, PA, PB]
            have gYhm := hm.size
            refine at_anyH (fun v => GB (fun _ => False) V v ∧ BK v (wc6.heap.size) [.slice none 0 0, .slice none 0 0] ∧ BK v (wc23.heap.size) [.int .i64 0, .int .i64 0] ∧ Mid wc22.heap.size wc23 v) ⟨hHeld, BX.al _, BK.new _ _ _, hm.al _⟩ (fun wc28 hS => ?_)
            clear hHeld BX hm
            obtain ⟨hHeld, BX, BY, hm⟩ := hS
            refine wpAnyH_ready (rs := [13]) (by kernel_rfl) (by simp) (AllReadyH.cons (o := _) rfl (fun K hK => ?_) AllReadyH.nil)
            have n0 := BX.c 0 rfl
            have f0 := BX.f 0 rfl
            have n1 := BX.c 1 rfl
            have f1 := BX.f 1 rfl
            go_simp
            clear n0 f0 n1 f1
            refine hK.out _ _ ((hHeld.set (.inr hX) _).set (.inr hX) _) (fun hNew => ?_)
            clear hHeld hK K
            have hHeld := hNew
            clear hNew
            try simp only [Act.put, PA, PB]
            refine at_anyH (fun v => GB (fun _ => False) V v ∧ BK v (wc6.heap.size) [.slice A2 m2 ca2, .slice Q2 n2 cq2] ∧ BK v (wc23.heap.size) [.int .i64 0, .int .i64 0] ∧ Mid wc22.heap.size wc23 v) ⟨hHeld, ((BX.set 0 _).set 1 _), ((BY.far (by omega) _ _).far (by omega) _ _), ((hm.set (by omega) _).set (by omega) _)⟩ (fun wc29 hS => ?_)
            clear hHeld BX BY hm
            obtain ⟨hHeld, BX, BY, hm⟩ := hS
            refine wpAnyH_ready (rs := [14]) (by kernel_rfl) (by simp) (AllReadyH.cons (o := _) rfl (fun K hK => ?_) AllReadyH.nil)
            have n0 := BY.c 0 rfl
            have f0 := BY.f 0 rfl
            have n1 := BY.c 1 rfl
            have f1 := BY.f 1 rfl
            go_simp
            clear n0 f0 n1 f1
            refine hK.out _ _ ((hHeld.set (.inr hY) _).set (.inr hY) _) (fun hNew => ?_)
            clear hHeld hK K
            have hHeld := hNew
            clear hNew
            try simp only [Act.put, PA, PB]
            refine at_anyH (fun v => GB (fun _ => False) V v ∧ BK v (wc6.heap.size) [.slice A2 m2 ca2, .slice Q2 n2 cq2] ∧ BK v (wc23.heap.size) [.int .i64 qx, .int .i64 qy] ∧ Mid wc22.heap.size wc23 v) ⟨hHeld, ((BX.far (by omega) _ _).far (by omega) _ _), ((BY.set 0 _).set 1 _), ((hm.set (by omega) _).set (by omega) _)⟩ (fun wc30 hS => ?_)
            clear hHeld BX BY hm
            obtain ⟨hHeld, BX, BY, hm⟩ := hS
            refine wpAnyH_take (i := 15) (oi := _) (v := ?vc31) rfl (by kernel_rfl) (by kernel_rfl) (by kernel_rfl) (fun _ _ _ h => h) (Or.inl ⟨by kernel_rfl, ?hyc31⟩) hHeld ?restc31
            case hyc31 => (intro w hSw; go_simp; first | done | (with_reducible rfl))
            try simp only [Act.put, PA, PB]
            refine wpAnyH_done (by kernel_rfl) ?_ _
            go_wp2_with fail
            go_meet
            exact ⟨_, _, A2, m2, ca2, Q2, n2, cq2, l2, rfl, rfl, BX, BY, hX, hY, HM2.out, HN2.out, HD2.out, (hfd.mid hm).mono hvw, hHeld.toBelow (Below.refl _ _) (fun k hk => hk.elim) (Nat.le_refl _)⟩
          ·
            go_simp
            refine hK.out _ _ (hHeld.al _) (fun hNew => ?_)
            have hY : V.heap.size ≤ wc22.heap.size := hHeld.size
            have dXY := BX.lt
            clear hHeld hK K
            have hHeld := hNew
            clear hNew
            try simp only [Act.put, PA, PB]
            refine at_anyH (fun v => GB (fun _ => False) V v ∧ BK v (wc6.heap.size) [.slice none 0 0, .slice none 0 0] ∧ BK v (wc22.heap.size) [.int .i64 0, .int .i64 0]) ⟨hHeld, BX.al _, BK.new _ _ _⟩ (fun wc32 hS => ?_)
            clear hHeld BX
            obtain ⟨hHeld, BX, BY⟩ := hS
            refine wpAnyH_ready (rs := [6]) (by kernel_rfl) (by simp) (AllReadyH.cons (o := _) rfl (fun K hK => ?_) AllReadyH.nil)
            go_simp
            refine (VL.out _ (hHeld.toBelow hbb (fun k hk => hk.elim) (by omega))).mono ?_
            rintro e wc33 hput
            obtain ⟨A2, m2, ca2, Q2, n2, cq2, l2, rfl, hb3, hm2, hn2, hd2, hfd⟩ := hput.yes HE.out HT.out
            clear hput
            have HM2 := Lib.hid hm2
            have HN2 := Lib.hid hn2
            have HD2 := Lib.hid hd2
            clear hm2 hn2 hd2
            rw [HQX.out, HQY.out]
            have hm := Mid.refl wc32.heap.size wc33
            have hvw := hHeld.size
            go_wp2_with fail
            refine hK.out _ _ (hHeld.below hb3) (fun hNew => ?_)
            have cX := BX.lt
            replace BX := BX.keep hb3
            have cY := BY.lt
            replace BY := BY.keep hb3
            clear hb3
            clear hHeld hK K
            have hHeld := hNew
            clear hNew
            try simp only [Act.put, PA, PB]
            refine wpAnyH_take (i := 7) (oi := _) (v := ?vc34) rfl (by kernel_rfl) (by kernel_rfl) (by kernel_rfl) (fun _ _ _ h => h) (Or.inl ⟨by kernel_rfl, ?hyc34⟩) hHeld ?restc34
            case hyc34 => (intro w hSw; go_simp; first | done | (with_reducible rfl))
            try simp only [Act.put, PA, PB]
            refine wpAnyH_take (i := 8) (oi := _) (v := ?vc35) rfl (by kernel_rfl) (by kernel_rfl) (by kernel_rfl) (fun _ _ _ h => h) (Or.inl ⟨by kernel_rfl, ?hyc35⟩) hHeld ?restc35
            case hyc35 => (intro w hSw; go_simp; first | done | (with_reducible rfl))
            try simp only [Act.put, PA, PB]
            refine wpAnyH_take (i := 9) (oi := _) (v := ?vc36) rfl (by kernel_rfl) (by kernel_rfl) (by kernel_rfl) (fun _ _ _ h => h) (Or.inl ⟨by kernel_rfl, ?hyc36⟩) hHeld ?restc36
            case hyc36 => (intro w hSw; go_simp; first | done | (with_reducible rfl))
            try simp only [Act.put, PA, PB]
            refine wpAnyH_take (i := 10) (oi := _) (v := ?vc37) rfl (by kernel_rfl) (by kernel_rfl) (by kernel_rfl) (fun _ _ _ h => h) (Or.inl ⟨by kernel_rfl, ?hyc37⟩) hHeld ?restc37
            case hyc37 => (intro w hSw; go_simp; first | done | (with_reducible rfl))
            try simp only [Act.put, PA, PB]
            refine wpAnyH_ready (rs := [13]) (by kernel_rfl) (by simp) (AllReadyH.cons (o := _) rfl (fun K hK => ?_) AllReadyH.nil)
            have n0 := BX.c 0 rfl
            have f0 := BX.f 0 rfl
            have n1 := BX.c 1 rfl
            have f1 := BX.f 1 rfl
            go_simp
            clear n0 f0 n1 f1
            refine hK.out _ _ ((hHeld.set (.inr hX) _).set (.inr hX) _) (fun hNew => ?_)
            clear hHeld hK K
            have hHeld := hNew
            clear hNew
            try simp only [Act.put, PA, PB]
            refine at_anyH (fun v => GB (fun _ => False) V v ∧ BK v (wc6.heap.size) [.slice A2 m2 ca2, .slice Q2 n2 cq2] ∧ BK v (wc22.heap.size) [.int .i64 0, .int .i64 0] ∧ Mid wc32.heap.size wc33 v) ⟨hHeld, ((BX.set 0 _).set 1 _), ((BY.far (by omega) _ _).far (by omega) _ _), ((hm.set (by omega) _).set (by omega) _)⟩ (fun wc38 hS => ?_)
            clear hHeld BX BY hm
            obtain ⟨hHeld, BX, BY, hm⟩ := hS
            refine wpAnyH_ready (rs := [14]) (by kernel_rfl) (by simp) (AllReadyH.cons (o := _) rfl (fun K hK => ?_) AllReadyH.nil)
            have n0 := BY.c 0 rfl
            have f0 := BY.f 0 rfl
            have n1 := BY.c 1 rfl
            have f1 := BY.f 1 rfl
            go_simp
            clear n0 f0 n1 f1
            refine hK.out _ _ ((hHeld.set (.inr hY) _).set (.inr hY) _) (fun hNew => ?_)
            clear hHeld hK K
            have hHeld := hNew
            clear hNew
            try simp only [Act.put, PA, PB]
            refine at_anyH (fun v => GB (fun _ => False) V v ∧ BK v (wc6.heap.size) [.slice A2 m2 ca2, .slice Q2 n2 cq2] ∧ BK v (wc22.heap.size) [.int .i64 qx, .int .i64 qy] ∧ Mid wc32.heap.size wc33 v) ⟨hHeld, ((BX.far (by omega) _ _).far (by omega) _ _), ((BY.set 0 _).set 1 _), ((hm.set (by omega) _).set (by omega) _)⟩ (fun wc39 hS => ?_)
            clear hHeld BX BY hm
            obtain ⟨hHeld, BX, BY, hm⟩ := hS
            refine wpAnyH_take (i := 15) (oi := _) (v := ?vc40) rfl (by kernel_rfl) (by kernel_rfl) (by kernel_rfl) (fun _ _ _ h => h) (Or.inl ⟨by kernel_rfl, ?hyc40⟩) hHeld ?restc40
            case hyc40 => (intro w hSw; go_simp; first | done | (with_reducible rfl))
            try simp only [Act.put, PA, PB]
            refine wpAnyH_done (by kernel_rfl) ?_ _
            go_wp2_with fail
            go_meet
            exact ⟨_, _, A2, m2, ca2, Q2, n2, cq2, l2, rfl, rfl, BX, BY, hX, hY, HM2.out, HN2.out, HD2.out, (hfd.mid hm).mono hvw, hHeld.toBelow (Below.refl _ _) (fun k hk => hk.elim) (Nat.le_refl _)⟩
        ·
          go_simp
          refine hK.out _ _ (hHeld.al _) (fun hNew => ?_)
          have hY : V.heap.size ≤ wc6.heap.size := hHeld.size
          clear hHeld hK K
          have hHeld := hNew
          clear hNew
          try simp only [Act.put, PA, PB]
          refine at_anyH (fun v => GB (fun _ => False) V v ∧ BK v (wc6.heap.size) [.int .i64 0, .int .i64 0]) ⟨hHeld, BK.new _ _ _⟩ (fun wc41 hS => ?_)
          clear hHeld
          obtain ⟨hHeld, BY⟩ := hS
          refine wpAnyH_ready (rs := [6, 11]) (by kernel_rfl) (by simp) (AllReadyH.cons (o := _) rfl (fun K hK => ?_) (AllReadyH.cons (o := _) rfl (fun K hK => ?_) AllReadyH.nil))
          ·
            go_simp
            refine (VL.out _ (hHeld.toBelow hbb (fun k hk => hk.elim) (by omega))).mono ?_
            rintro e wc42 hput
            obtain ⟨A2, m2, ca2, Q2, n2, cq2, l2, rfl, hb3, hm2, hn2, hd2, hfd⟩ := hput.yes HE.out HT.out
            clear hput
            have HM2 := Lib.hid hm2
            have HN2 := Lib.hid hn2
            have HD2 := Lib.hid hd2
            clear hm2 hn2 hd2
            rw [HQX.out, HQY.out]
            have hm := Mid.refl wc41.heap.size wc42
            have hvw := hHeld.size
            go_wp2_with fail
            refine hK.out _ _ (hHeld.below hb3) (fun hNew => ?_)
            have cY := BY.lt
            replace BY := BY.keep hb3
            clear hb3
            clear hHeld hK K
            have hHeld := hNew
            clear hNew
            try simp only [Act.put, PA, PB]
            refine wpAnyH_take (i := 7) (oi := _) (v := ?vc43) rfl (by kernel_rfl) (by kernel_rfl) (by kernel_rfl) (fun _ _ _ h => h) (Or.inl ⟨by kernel_rfl, ?hyc43⟩) hHeld ?restc43
            case hyc43 => (intro w hSw; go_simp; first | done | (with_reducible rfl))
            try simp only [Act.put, PA, PB]
            refine wpAnyH_take (i := 8) (oi := _) (v := ?vc44) rfl (by kernel_rfl) (by kernel_rfl) (by kernel_rfl) (fun _ _ _ h => h) (Or.inl ⟨by kernel_rfl, ?hyc44⟩) hHeld ?restc44
            case hyc44 => (intro w hSw; go_simp; first | done | (with_reducible rfl))
            try simp only [Act.put, PA, PB]
            refine wpAnyH_take (i := 9) (oi := _) (v := ?vc45) rfl (by kernel_rfl) (by kernel_rfl) (by kernel_rfl) (fun _ _ _ h => h) (Or.inl ⟨by kernel_rfl, ?hyc45⟩) hHeld ?restc45
            case hyc45 => (intro w hSw; go_simp; first | done | (with_reducible rfl))
            try simp only [Act.put, PA, PB]
            refine wpAnyH_take (i := 10) (oi := _) (v := ?vc46) rfl (by kernel_rfl) (by kernel_rfl) (by kernel_rfl) (fun _ _ _ h => h) (Or.inl ⟨by kernel_rfl, ?hyc46⟩) hHeld ?restc46
            case hyc46 => (intro w hSw; go_simp; first | done | (with_reducible rfl))
            try simp only [Act.put, PA, PB]
            refine wpAnyH_ready (rs := [11]) (by kernel_rfl) (by simp) (AllReadyH.cons (o := _) rfl (fun K hK => ?_) AllReadyH.nil)
            go_simp
            refine hK.out _ _ (hHeld.al _) (fun hNew => ?_)
            have hX : V.heap.size ≤ wc42.heap.size := hHeld.size
            have dYX := BY.lt
            clear hHeld hK K
            have hHeld := hNew
            clear hNew
            try simp only [Act.put, PA, PB]
            have gXhm := hm.size
            refine at_anyH (fun v => GB (fun _ => False) V v ∧ BK v (wc6.heap.size) [.int .i64 0, .int .i64 0] ∧ BK v (wc42.heap.size) [.slice none 0 0, .slice none 0 0] ∧ Mid wc41.heap.size wc42 v) ⟨hHeld, BY.al _, BK.new _ _ _, hm.al _⟩ (fun wc47 hS => ?_)
            clear hHeld BY hm
            obtain ⟨hHeld, BY, BX, hm⟩ := hS
            refine wpAnyH_ready (rs := [13]) (by kernel_rfl) (by simp) (AllReadyH.cons (o := _) rfl (fun K hK => ?_) AllReadyH.nil)
            have n0 := BX.c 0 rfl
            have f0 := BX.f 0 rfl
            have n1 := BX.c 1 rfl
            have f1 := BX.f 1 rfl
            go_simp
            clear n0 f0 n1 f1
            refine hK.out _ _ ((hHeld.set (.inr hX) _).set (.inr hX) _) (fun hNew => ?_)
            clear hHeld hK K
            have hHeld := hNew
            clear hNew
            try simp only [Act.put, PA, PB]
            refine at_anyH (fun v => GB (fun _ => False) V v ∧ BK v (wc6.heap.size) [.int .i64 0, .int .i64 0] ∧ BK v (wc42.heap.size) [.slice A2 m2 ca2, .slice Q2 n2 cq2] ∧ Mid wc41.heap.size wc42 v) ⟨hHeld, ((BY.far (by omega) _ _).far (by omega) _ _), ((BX.set 0 _).set 1 _), ((hm.set (by omega) _).set (by omega) _)⟩ (fun wc48 hS => ?_)
            clear hHeld BY BX hm
            obtain ⟨hHeld, BY, BX, hm⟩ := hS
            refine wpAnyH_ready (rs := [14]) (by kernel_rfl) (by simp) (AllReadyH.cons (o := _) rfl (fun K hK => ?_) AllReadyH.nil)
            have n0 := BY.c 0 rfl
            have f0 := BY.f 0 rfl
            have n1 := BY.c 1 rfl
            have f1 := BY.f 1 rfl
            go_simp
            clear n0 f0 n1 f1
            refine hK.out _ _ ((hHeld.set (.inr hY) _).set (.inr hY) _) (fun hNew => ?_)
            clear hHeld hK K
            have hHeld := hNew
            clear hNew
            try simp only [Act.put, PA, PB]
            refine at_anyH (fun v => GB (fun _ => False) V v ∧ BK v (wc6.heap.size) [.int .i64 qx, .int .i64 qy] ∧ BK v (wc42.heap.size) [.slice A2 m2 ca2, .slice Q2 n2 cq2] ∧ Mid wc41.heap.size wc42 v) ⟨hHeld, ((BY.set 0 _).set 1 _), ((BX.far (by omega) _ _).far (by omega) _ _), ((hm.set (by omega) _).set (by omega) _)⟩ (fun wc49 hS => ?_)
            clear hHeld BY BX hm
            obtain ⟨hHeld, BY, BX, hm⟩ := hS
            refine wpAnyH_take (i := 15) (oi := _) (v := ?vc50) rfl (by kernel_rfl) (by kernel_rfl) (by kernel_rfl) (fun _ _ _ h => h) (Or.inl ⟨by kernel_rfl, ?hyc50⟩) hHeld ?restc50
            case hyc50 => (intro w hSw; go_simp; first | done | (with_reducible rfl))
            try simp only [Act.put, PA, PB]
            refine wpAnyH_done (by kernel_rfl) ?_ _
            go_wp2_with fail
            go_meet
            exact ⟨_, _, A2, m2, ca2, Q2, n2, cq2, l2, rfl, rfl, BX, BY, hX, hY, HM2.out, HN2.out, HD2.out, (hfd.mid hm).mono hvw, hHeld.toBelow (Below.refl _ _) (fun k hk => hk.elim) (Nat.le_refl _)⟩
          ·
            go_simp
            refine hK.out _ _ (hHeld.al _) (fun hNew => ?_)
            have hX : V.heap.size ≤ wc41.heap.size := hHeld.size
            have dYX := BY.lt
            clear hHeld hK K
            have hHeld := hNew
            clear hNew
            try simp only [Act.put, PA, PB]
            refine at_anyH (fun v => GB (fun _ => False) V v ∧ BK v (wc6.heap.size) [.int .i64 0, .int .i64 0] ∧ BK v (wc41.heap.size) [.slice none 0 0, .slice none 0 0]) ⟨hHeld, BY.al _, BK.new _ _ _⟩ (fun wc51 hS => ?_)
            clear hHeld BY
            obtain ⟨hHeld, BY, BX⟩ := hS
            refine wpAnyH_ready (rs := [6]) (by kernel_rfl) (by simp) (AllReadyH.cons (o := _) rfl (fun K hK => ?_) AllReadyH.nil)
            go_simp
            refine (VL.out _ (hHeld.toBelow hbb (fun k hk => hk.elim) (by omega))).mono ?_
            rintro e wc52 hput
            obtain ⟨A2, m2, ca2, Q2, n2, cq2, l2, rfl, hb3, hm2, hn2, hd2, hfd⟩ := hput.yes HE.out HT.out
            clear hput
            have HM2 := Lib.hid hm2
            have HN2 := Lib.hid hn2
            have HD2 := Lib.hid hd2
            clear hm2 hn2 hd2
            rw [HQX.out, HQY.out]
            have hm := Mid.refl wc51.heap.size wc52
            have hvw := hHeld.size
            go_wp2_with fail
            refine hK.out _ _ (hHeld.below hb3) (fun hNew => ?_)
            have cY := BY.lt
            replace BY := BY.keep hb3
            have cX := BX.lt
            replace BX := BX.keep hb3
            clear hb3
            clear hHeld hK K
            have hHeld := hNew
            clear hNew
            try simp only [Act.put, PA, PB]
            refine wpAnyH_take (i := 7) (oi := _) (v := ?vc53) rfl (by kernel_rfl) (by kernel_rfl) (by kernel_rfl) (fun _ _ _ h => h) (Or.inl ⟨by kernel_rfl, ?hyc53⟩) hHeld ?restc53
            case hyc53 => (intro w hSw; go_simp; first | done | (with_reducible rfl))
            try simp only [Act.put, PA, PB]
            refine wpAnyH_take (i := 8) (oi := _) (v := ?vc54) rfl (by kernel_rfl) (by kernel_rfl) (by kernel_rfl) (fun _ _ _ h => h) (Or.inl ⟨by kernel_rfl, ?hyc54⟩) hHeld ?restc54
            case hyc54 => (intro w hSw; go_simp; first | done | (with_reducible rfl))
            try simp only [Act.put, PA, PB]
            refine wpAnyH_take (i := 9) (oi := _) (v := ?vc55) rfl (by kernel_rfl) (by kernel_rfl) (by kernel_rfl) (fun _ _ _ h => h) (Or.inl ⟨by kernel_rfl, ?hyc55⟩) hHeld ?restc55
            case hyc55 => (intro w hSw; go_simp; first | done | (with_reducible rfl))
            try simp only [Act.put, PA, PB]
            refine wpAnyH_take (i := 10) (oi := _) (v := ?vc56) rfl (by kernel_rfl) (by kernel_rfl) (by kernel_rfl) (fun _ _ _ h => h) (Or.inl ⟨by kernel_rfl, ?hyc56⟩) hHeld ?restc56
            case hyc56 => (intro w hSw; go_simp; first | done | (with_reducible rfl))
            try simp only [Act.put, PA, PB]
            refine wpAnyH_ready (rs := [13]) (by kernel_rfl) (by simp) (AllReadyH.cons (o := _) rfl (fun K hK => ?_) AllReadyH.nil)
            have n0 := BX.c 0 rfl
            have f0 := BX.f 0 rfl
            have n1 := BX.c 1 rfl
            have f1 := BX.f 1 rfl
            go_simp
            clear n0 f0 n1 f1
            refine hK.out _ _ ((hHeld.set (.inr hX) _).set (.inr hX) _) (fun hNew => ?_)
            clear hHeld hK K
            have hHeld := hNew
            clear hNew
            try simp only [Act.put, PA, PB]
            refine at_anyH (fun v => GB (fun _ => False) V v ∧ BK v (wc6.heap.size) [.int .i64 0, .int .i64 0] ∧ BK v (wc41.heap.size) [.slice A2 m2 ca2, .slice Q2 n2 cq2] ∧ Mid wc51.heap.size wc52 v) ⟨hHeld, ((BY.far (by omega) _ _).far (by omega) _ _), ((BX.set 0 _).set 1 _), ((hm.set (by omega) _).set (by omega) _)⟩ (fun wc57 hS => ?_)
            clear hHeld BY BX hm
            obtain ⟨hHeld, BY, BX, hm⟩ := hS
            refine wpAnyH_ready (rs := [14]) (by kernel_rfl) (by simp) (AllReadyH.cons (o := _) rfl (fun K hK => ?_) AllReadyH.nil)
            have n0 := BY.c 0 rfl
            have f0 := BY.f 0 rfl
            have n1 := BY.c 1 rfl
            have f1 := BY.f 1 rfl
            go_simp
            clear n0 f0 n1 f1
            refine hK.out _ _ ((hHeld.set (.inr hY) _).set (.inr hY) _) (fun hNew => ?_)
            clear hHeld hK K
            have hHeld := hNew
            clear hNew
            try simp only [Act.put, PA, PB]
            refine at_anyH (fun v => GB (fun _ => False) V v ∧ BK v (wc6.heap.size) [.int .i64 qx, .int .i64 qy] ∧ BK v (wc41.heap.size) [.slice A2 m2 ca2, .slice Q2 n2 cq2] ∧ Mid wc51.heap.size wc52 v) ⟨hHeld, ((BY.set 0 _).set 1 _), ((BX.far (by omega) _ _).far (by omega) _ _), ((hm.set (by omega) _).set (by omega) _)⟩ (fun wc58 hS => ?_)
            clear hHeld BY BX hm
            obtain ⟨hHeld, BY, BX, hm⟩ := hS
            refine wpAnyH_take (i := 15) (oi := _) (v := ?vc59) rfl (by kernel_rfl) (by kernel_rfl) (by kernel_rfl) (fun _ _ _ h => h) (Or.inl ⟨by kernel_rfl, ?hyc59⟩) hHeld ?restc59
            case hyc59 => (intro w hSw; go_simp; first | done | (with_reducible rfl))
            try simp only [Act.put, PA, PB]
            refine wpAnyH_done (by kernel_rfl) ?_ _
            go_wp2_with fail
            go_meet
            exact ⟨_, _, A2, m2, ca2, Q2, n2, cq2, l2, rfl, rfl, BX, BY, hX, hY, HM2.out, HN2.out, HD2.out, (hfd.mid hm).mono hvw, hHeld.toBelow (Below.refl _ _) (fun k hk => hk.elim) (Nat.le_refl _)⟩
      ·
        go_simp
        refine hK.out _ _ (hHeld.al _) (fun hNew => ?_)
        have hX : V.heap.size ≤ wc0.heap.size := hHeld.size
        clear hHeld hK K
        have hHeld := hNew
        clear hNew
        try simp only [Act.put, PA, PB]
        refine at_anyH (fun v => GB (fun _ => False) V v ∧ BK v (wc0.heap.size) [.slice none 0 0, .slice none 0 0]) ⟨hHeld, BK.new _ _ _⟩ (fun wc60 hS => ?_)
        clear hHeld
        obtain ⟨hHeld, BX⟩ := hS
        refine wpAnyH_ready (rs := [3, 12]) (by kernel_rfl) (by simp) (AllReadyH.cons (o := _) rfl (fun K hK => ?_) (AllReadyH.cons (o := _) rfl (fun K hK => ?_) AllReadyH.nil))
        ·
          go_simp
          refine (WH.out _).mono ?_
          rintro e wc61 ⟨rfl, hb3⟩
          go_wp2_with fail
          refine hK.out _ _ (hHeld.below hb3) (fun hNew => ?_)
          replace BX := BX.keep hb3
          clear hb3
          clear hHeld hK K
          have hHeld := hNew
          clear hNew
          try simp only [Act.put, PA, PB]
          refine wpAnyH_ready (rs := [6, 12]) (by kernel_rfl) (by simp) (AllReadyH.cons (o := _) rfl (fun K hK => ?_) (AllReadyH.cons (o := _) rfl (fun K hK => ?_) AllReadyH.nil))
          ·
            go_simp
            refine (VL.out _ (hHeld.toBelow hbb (fun k hk => hk.elim) (by omega))).mono ?_
            rintro e wc62 hput
            obtain ⟨A2, m2, ca2, Q2, n2, cq2, l2, rfl, hb3, hm2, hn2, hd2, hfd⟩ := hput.yes HE.out HT.out
            clear hput
            have HM2 := Lib.hid hm2
            have HN2 := Lib.hid hn2
            have HD2 := Lib.hid hd2
            clear hm2 hn2 hd2
            rw [HQX.out, HQY.out]
            have hm := Mid.refl wc61.heap.size wc62
            have hvw := hHeld.size
            go_wp2_with fail
            refine hK.out _ _ (hHeld.below hb3) (fun hNew => ?_)
            have cX := BX.lt
            replace BX := BX.keep hb3
            clear hb3
            clear hHeld hK K
            have hHeld := hNew
            clear hNew
            try simp only [Act.put, PA, PB]
            refine wpAnyH_take (i := 7) (oi := _) (v := ?vc63) rfl (by kernel_rfl) (by kernel_rfl) (by kernel_rfl) (fun _ _ _ h => h) (Or.inl ⟨by kernel_rfl, ?hyc63⟩) hHeld ?restc63
            case hyc63 => (intro w hSw; go_simp; first | done | (with_reducible rfl))
            try simp only [Act.put, PA, PB]
            refine wpAnyH_take (i := 8) (oi := _) (v := ?vc64) rfl (by kernel_rfl) (by kernel_rfl) (by kernel_rfl) (fun _ _ _ h => h) (Or.inl ⟨by kernel_rfl, ?hyc64⟩) hHeld ?restc64
            case hyc64 => (intro w hSw; go_simp; first | done | (with_reducible rfl))
            try simp only [Act.put, PA, PB]
            refine wpAnyH_take (i := 9) (oi := _) (v := ?vc65) rfl (by kernel_rfl) (by kernel_rfl) (by kernel_rfl) (fun _ _ _ h => h) (Or.inl ⟨by kernel_rfl, ?hyc65⟩) hHeld ?restc65
            case hyc65 => (intro w hSw; go_simp; first | done | (with_reducible rfl))
            try simp only [Act.put, PA, PB]
            refine wpAnyH_take (i := 10) (oi := _) (v := ?vc66) rfl (by kernel_rfl) (by kernel_rfl) (by kernel_rfl) (fun _ _ _ h => h) (Or.inl ⟨by kernel_rfl, ?hyc66⟩) hHeld ?restc66
            case hyc66 => (intro w hSw; go_simp; first | done | (with_reducible rfl))
            try simp only [Act.put, PA, PB]
            refine wpAnyH_ready (rs := [12]) (by kernel_rfl) (by simp) (AllReadyH.cons (o := _) rfl (fun K hK => ?_) AllReadyH.nil)
            go_simp
            refine hK.out _ _ (hHeld.al _) (fun hNew => ?_)
            have hY : V.heap.size ≤ wc62.heap.size := hHeld.size
            have dXY := BX.lt
            clear hHeld hK K
            have hHeld := hNew
            clear hNew
            try simp only [Act.put, PA, PB]
            have gYhm := hm.size
            refine at_anyH (fun v => GB (fun _ => False) V v ∧ BK v (wc0.heap.size) [.slice none 0 0, .slice none 0 0] ∧ BK v (wc62.heap.size) [.int .i64 0, .int .i64 0] ∧ Mid wc61.heap.size wc62 v) ⟨hHeld, BX.al _, BK.new _ _ _, hm.al _⟩ (fun wc67 hS => ?_)
            clear hHeld BX hm
            obtain ⟨hHeld, BX, BY, hm⟩ := hS
            refine wpAnyH_ready (rs := [13]) (by kernel_rfl) (by simp) (AllReadyH.cons (o := _) rfl (fun K hK => ?_) AllReadyH.nil)
            have n0 := BX.c 0 rfl
            have f0 := BX.f 0 rfl
            have n1 := BX.c 1 rfl
            have f1 := BX.f 1 rfl
            go_simp
            clear n0 f0 n1 f1
            refine hK.out _ _ ((hHeld.set (.inr hX) _).set (.inr hX) _) (fun hNew => ?_)
            clear hHeld hK K
            have hHeld := hNew
            clear hNew
            try simp only [Act.put, PA, PB]
            refine at_anyH (fun v => GB (fun _ => False) V v ∧ BK v (wc0.heap.size) [.slice A2 m2 ca2, .slice Q2 n2 cq2] ∧ BK v (wc62.heap.size) [.int .i64 0, .int .i64 0] ∧ Mid wc61.heap.size wc62 v) ⟨hHeld, ((BX.set 0 _).set 1 _), ((BY.far (by omega) _ _).far (by omega) _ _), ((hm.set (by omega) _).set (by omega) _)⟩ (fun wc68 hS => ?_)
            clear hHeld BX BY hm
            obtain ⟨hHeld, BX, BY, hm⟩ := hS
            refine wpAnyH_ready (rs := [14]) (by kernel_rfl) (by simp) (AllReadyH.cons (o := _) rfl (fun K hK => ?_) AllReadyH.nil)
            have n0 := BY.c 0 rfl
            have f0 := BY.f 0 rfl
            have n1 := BY.c 1 rfl
            have f1 := BY.f 1 rfl
            go_simp
            clear n0 f0 n1 f1
            refine hK.out _ _ ((hHeld.set (.inr hY) _).set (.inr hY) _) (fun hNew => ?_)
            clear hHeld hK K
            have hHeld := hNew
            clear hNew
            try simp only [Act.put, PA, PB]
            refine at_anyH (fun v => GB (fun _ => False) V v ∧ BK v (wc0.heap.size) [.slice A2 m2 ca2, .slice Q2 n2 cq2] ∧ BK v (wc62.heap.size) [.int .i64 qx, .int .i64 qy] ∧ Mid wc61.heap.size wc62 v) ⟨hHeld, ((BX.far (by omega) _ _).far (by omega) _ _), ((BY.set 0 _).set 1 _), ((hm.set (by omega) _).set (by omega) _)⟩ (fun wc69 hS => ?_)
            clear hHeld BX BY hm
            obtain ⟨hHeld, BX, BY, hm⟩ := hS
            refine wpAnyH_take (i := 15) (oi := _) (v := ?vc70) rfl (by kernel_rfl) (by kernel_rfl) (by kernel_rfl) (fun _ _ _ h => h) (Or.inl ⟨by kernel_rfl, ?hyc70⟩) hHeld ?restc70
            case hyc70 => (intro w hSw; go_simp; first | done | (with_reducible rfl))
            try simp only [Act.put, PA, PB]
            refine wpAnyH_done (by kernel_rfl) ?_ _
            go_wp2_with fail
            go_meet
            exact ⟨_, _, A2, m2, ca2, Q2, n2, cq2, l2, rfl, rfl, BX, BY, hX, hY, HM2.out, HN2.out, HD2.out, (hfd.mid hm).mono hvw, hHeld.toBelow (Below.refl _ _) (fun k hk => hk.elim) (Nat.le_refl _)⟩
          ·
            go_simp
            refine hK.out _ _ (hHeld.al _) (fun hNew => ?_)
            have hY : V.heap.size ≤ wc61.heap.size := hHeld.size
            have dXY := BX.lt
            clear hHeld hK K
            have hHeld := hNew
            clear hNew
            try simp only [Act.put, PA, PB]
            refine at_anyH (fun v => GB (fun _ => False) V v ∧ BK v (wc0.heap.size) [.slice none 0 0, .slice none 0 0] ∧ BK v (wc61.heap.size) [.int .i64 0, .int .i64 0]) ⟨hHeld, BX.al _, BK.new _ _ _⟩ (fun wc71 hS => ?_)
            clear hHeld BX
            obtain ⟨hHeld, BX, BY⟩ := hS
            refine wpAnyH_ready (rs := [6]) (by kernel_rfl) (by simp) (AllReadyH.cons (o := _) rfl (fun K hK => ?_) AllReadyH.nil)
            go_simp
            refine (VL.out _ (hHeld.toBelow hbb (fun k hk => hk.elim) (by omega))).mono ?_
            rintro e wc72 hput
            obtain ⟨A2, m2, ca2, Q2, n2, cq2, l2, rfl, hb3, hm2, hn2, hd2, hfd⟩ := hput.yes HE.out HT.out
            clear hput
            have HM2 := Lib.hid hm2
            have HN2 := Lib.hid hn2
            have HD2 := Lib.hid hd2
            clear hm2 hn2 hd2
            rw [HQX.out, HQY.out]
            have hm := Mid.refl wc71.heap.size wc72
            have hvw := hHeld.size
            go_wp2_with fail
            refine hK.out _ _ (hHeld.below hb3) (fun hNew => ?_)
            have cX := BX.lt
            replace BX := BX.keep hb3
            have cY := BY.lt
            replace BY := BY.keep hb3
            clear hb3
            clear hHeld hK K
            have hHeld := hNew
            clear hNew
            try simp only [Act.put, PA, PB]
            refine wpAnyH_take (i := 7) (oi := _) (v := ?vc73) rfl (by kernel_rfl) (by kernel_rfl) (by kernel_rfl) (fun _ _ _ h => h) (Or.inl ⟨by kernel_rfl, ?hyc73⟩) hHeld ?restc73
            case hyc73 => (intro w hSw; go_simp; first | done | (with_reducible rfl))
            try simp only [Act.put, PA, PB]
            refine wpAnyH_take (i := 8) (oi := _) (v := ?vc74) rfl (by kernel_rfl) (by kernel_rfl) (by kernel_rfl) (fun _ _ _ h => h) (Or.inl ⟨by kernel_rfl, ?hyc74⟩) hHeld ?restc74
            case hyc74 => (intro w hSw; go_simp; first | done | (with_reducible rfl))
            try simp only [Act.put, PA, PB]
            refine wpAnyH_take (i := 9) (oi := _) (v := ?vc75) rfl (by kernel_rfl) (by kernel_rfl) (by kernel_rfl) (fun _ _ _ h => h) (Or.inl ⟨by kernel_rfl, ?hyc75⟩) hHeld ?restc75
            case hyc75 => (intro w hSw; go_simp; first | done | (with_reducible rfl))
            try simp only [Act.put, PA, PB]
            refine wpAnyH_take (i := 10) (oi := _) (v := ?vc76) rfl (by kernel_rfl) (by kernel_rfl) (by kernel_rfl) (fun _ _ _ h => h) (Or.inl ⟨by kernel_rfl, ?hyc76⟩) hHeld ?restc76
            case hyc76 => (intro w hSw; go_simp; first | done | (with_reducible rfl))
            try simp only [Act.put, PA, PB]
            refine wpAnyH_ready (rs := [13]) (by kernel_rfl) (by simp) (AllReadyH.cons (o := _) rfl (fun K hK => ?_) AllReadyH.nil)
            have n0 := BX.c 0 rfl
            have f0 := BX.f 0 rfl
            have n1 := BX.c 1 rfl
            have f1 := BX.f 1 rfl
            go_simp
            clear n0 f0 n1 f1
            refine hK.out _ _ ((hHeld.set (.inr hX) _).set (.inr hX) _) (fun hNew => ?_)
            clear hHeld hK K
            have hHeld := hNew
            clear hNew
            try simp only [Act.put, PA, PB]
            refine at_anyH (fun v => GB (fun _ => False) V v ∧ BK v (wc0.heap.size) [.slice A2 m2 ca2, .slice Q2 n2 cq2] ∧ BK v (wc61.heap.size) [.int .i64 0, .int .i64 0] ∧ Mid wc71.heap.size wc72 v) ⟨hHeld, ((BX.set 0 _).set 1 _), ((BY.far (by omega) _ _).far (by omega) _ _), ((hm.set (by omega) _).set (by omega) _)⟩ (fun wc77 hS => ?_)
            clear hHeld BX BY hm
            obtain ⟨hHeld, BX, BY, hm⟩ := hS
            refine wpAnyH_ready (rs := [14]) (by kernel_rfl) (by simp) (AllReadyH.cons (o := _) rfl (fun K hK => ?_) AllReadyH.nil)
            have n0 := BY.c 0 rfl
            have f0 := BY.f 0 rfl
            have n1 := BY.c 1 rfl
            have f1 := BY.f 1 rfl
            go_simp
            clear n0 f0 n1 f1
            refine hK.out _ _ ((hHeld.set (.inr hY) _).set (.inr hY) _) (fun hNew => ?_)
            clear hHeld hK K
            have hHeld := hNew
            clear hNew
            try simp only [Act.put, PA, PB]
            refine at_anyH (fun v => GB (fun _ => False) V v ∧ BK v (wc0.heap.size) [.slice A2 m2 ca2, .slice Q2 n2 cq2] ∧ BK v (wc61.heap.size) [.int .i64 qx, .int .i64 qy] ∧ Mid wc71.heap.size wc72 v) ⟨hHeld, ((BX.far (by omega) _ _).far (by omega) _ _), ((BY.set 0 _).set 1 _), ((hm.set (by omega) _).set (by omega) _)⟩ (fun wc78 hS => ?_)
            clear hHeld BX BY hm
            obtain ⟨hHeld, BX, BY, hm⟩ := hS
            refine wpAnyH_take (i := 15) (oi := _) (v := ?vc79) rfl (by kernel_rfl) (by kernel_rfl) (by kernel_rfl) (fun _ _ _ h => h) (Or.inl ⟨by kernel_rfl, ?hyc79⟩) hHeld ?restc79
            case hyc79 => (intro w hSw; go_simp; first | done | (with_reducible rfl))
            try simp only [Act.put, PA, PB]
            refine wpAnyH_done (by kernel_rfl) ?_ _
            go_wp2_with fail
            go_meet
            exact ⟨_, _, A2, m2, ca2, Q2, n2, cq2, l2, rfl, rfl, BX, BY, hX, hY, HM2.out, HN2.out, HD2.out, (hfd.mid hm).mono hvw, hHeld.toBelow (Below.refl _ _) (fun k hk => hk.elim) (Nat.le_refl _)⟩
        ·
          go_simp
          refine hK.out _ _ (hHeld.al _) (fun hNew => ?_)
          have hY : V.heap.size ≤ wc60.heap.size := hHeld.size
          have dXY := BX.lt
          clear hHeld hK K
          have hHeld := hNew
          clear hNew
          try simp only [Act.put, PA, PB]
          refine at_anyH (fun v => GB (fun _ => False) V v ∧ BK v (wc0.heap.size) [.slice none 0 0, .slice none 0 0] ∧ BK v (wc60.heap.size) [.int .i64 0, .int .i64 0]) ⟨hHeld, BX.al _, BK.new _ _ _⟩ (fun wc80 hS => ?_)
          clear hHeld BX
          obtain ⟨hHeld, BX, BY⟩ := hS
          refine wpAnyH_ready (rs := [3]) (by kernel_rfl) (by simp) (AllReadyH.cons (o := _) rfl (fun K hK => ?_) AllReadyH.nil)
          go_simp
          refine (WH.out _).mono ?_
          rintro e wc81 ⟨rfl, hb3⟩
          go_wp2_with fail
          refine hK.out _ _ (hHeld.below hb3) (fun hNew => ?_)
          replace BX := BX.keep hb3
          replace BY := BY.keep hb3
          clear hb3
          clear hHeld hK K
          have hHeld := hNew
          clear hNew
          try simp only [Act.put, PA, PB]
          refine wpAnyH_ready (rs := [6]) (by kernel_rfl) (by simp) (AllReadyH.cons (o := _) rfl (fun K hK => ?_) AllReadyH.nil)
          go_simp
          refine (VL.out _ (hHeld.toBelow hbb (fun k hk => hk.elim) (by omega))).mono ?_
          rintro e wc82 hput
          obtain ⟨A2, m2, ca2, Q2, n2, cq2, l2, rfl, hb3, hm2, hn2, hd2, hfd⟩ := hput.yes HE.out HT.out
          clear hput
          have HM2 := Lib.hid hm2
          have HN2 := Lib.hid hn2
          have HD2 := Lib.hid hd2
          clear hm2 hn2 hd2
          rw [HQX.out, HQY.out]
          have hm := Mid.refl wc81.heap.size wc82
          have hvw := hHeld.size
          go_wp2_with fail
          refine hK.out _ _ (hHeld.below hb3) (fun hNew => ?_)
          have cX := BX.lt
          replace BX := BX.keep hb3
          have cY := BY.lt
          replace BY := BY.keep hb3
          clear hb3
          clear hHeld hK K
          have hHeld := hNew
          clear hNew
          try simp only [Act.put, PA, PB]
          refine wpAnyH_take (i := 7) (oi := _) (v := ?vc83) rfl (by kernel_rfl) (by kernel_rfl) (by kernel_rfl) (fun _ _ _ h => h) (Or.inl ⟨by kernel_rfl, ?hyc83⟩) hHeld ?restc83
          case hyc83 => (intro w hSw; go_simp; first | done | (with_reducible rfl))
          try simp only [Act.put, PA, PB]
          refine wpAnyH_take (i := 8) (oi := _) (v := ?vc84) rfl (by kernel_rfl) (by kernel_rfl) (by kernel_rfl) (fun _ _ _ h => h) (Or.inl ⟨by kernel_rfl, ?hyc84⟩) hHeld ?restc84
          case hyc84 => (intro w hSw; go_simp; first | done | (with_reducible rfl))
          try simp only [Act.put, PA, PB]
          refine wpAnyH_take (i := 9) (oi := _) (v := ?vc85) rfl (by kernel_rfl) (by kernel_rfl) (by kernel_rfl) (fun _ _ _ h => h) (Or.inl ⟨by kernel_rfl, ?hyc85⟩) hHeld ?restc85
          case hyc85 => (intro w hSw; go_simp; first | done | (with_reducible rfl))
          try simp only [Act.put, PA, PB]
          refine wpAnyH_take (i := 10) (oi := _) (v := ?vc86) rfl (by kernel_rfl) (by kernel_rfl) (by kernel_rfl) (fun _ _ _ h => h) (Or.inl ⟨by kernel_rfl, ?hyc86⟩) hHeld ?restc86
          case hyc86 => (intro w hSw; go_simp; first | done | (with_reducible rfl))
          try simp only [Act.put, PA, PB]
          refine wpAnyH_ready (rs := [13]) (by kernel_rfl) (by simp) (AllReadyH.cons (o := _) rfl (fun K hK => ?_) AllReadyH.nil)
          have n0 := BX.c 0 rfl
          have f0 := BX.f 0 rfl
          have n1 := BX.c 1 rfl
          have f1 := BX.f 1 rfl
          go_simp
          clear n0 f0 n1 f1
          refine hK.out _ _ ((hHeld.set (.inr hX) _).set (.inr hX) _) (fun hNew => ?_)
          clear hHeld hK K
          have hHeld := hNew
          clear hNew
          try simp only [Act.put, PA, PB]
          refine at_anyH (fun v => GB (fun _ => False) V v ∧ BK v (wc0.heap.size) [.slice A2 m2 ca2, .slice Q2 n2 cq2] ∧ BK v (wc60.heap.size) [.int .i64 0, .int .i64 0] ∧ Mid wc81.heap.size wc82 v) ⟨hHeld, ((BX.set 0 _).set 1 _), ((BY.far (by omega) _ _).far (by omega) _ _), ((hm.set (by omega) _).set (by omega) _)⟩ (fun wc87 hS => ?_)
          clear hHeld BX BY hm
          obtain ⟨hHeld, BX, BY, hm⟩ := hS
          refine wpAnyH_ready (rs := [14]) (by kernel_rfl) (by simp) (AllReadyH.cons (o := _) rfl (fun K hK => ?_) AllReadyH.nil)
          have n0 := BY.c 0 rfl
          have f0 := BY.f 0 rfl
          have n1 := BY.c 1 rfl
          have f1 := BY.f 1 rfl
          go_simp
          clear n0 f0 n1 f1
          refine hK.out _ _ ((hHeld.set (.inr hY) _).set (.inr hY) _) (fun hNew => ?_)
          clear hHeld hK K
          have hHeld := hNew
          clear hNew
          try simp only [Act.put, PA, PB]
          refine at_anyH (fun v => GB (fun _ => False) V v ∧ BK v (wc0.heap.size) [.slice A2 m2 ca2, .slice Q2 n2 cq2] ∧ BK v (wc60.heap.size) [.int .i64 qx, .int .i64 qy] ∧ Mid wc81.heap.size wc82 v) ⟨hHeld, ((BX.far (by omega) _ _).far (by omega) _ _), ((BY.set 0 _).set 1 _), ((hm.set (by omega) _).set (by omega) _)⟩ (fun wc88 hS => ?_)
          clear hHeld BX BY hm
          obtain ⟨hHeld, BX, BY, hm⟩ := hS
          refine wpAnyH_take (i := 15) (oi := _) (v := ?vc89) rfl (by kernel_rfl) (by kernel_rfl) (by kernel_rfl) (fun _ _ _ h => h) (Or.inl ⟨by kernel_rfl, ?hyc89⟩) hHeld ?restc89
          case hyc89 => (intro w hSw; go_simp; first | done | (with_reducible rfl))
          try simp only [Act.put, PA, PB]
          refine wpAnyH_done (by kernel_rfl) ?_ _
          go_wp2_with fail
          go_meet
          exact ⟨_, _, A2, m2, ca2, Q2, n2, cq2, l2, rfl, rfl, BX, BY, hX, hY, HM2.out, HN2.out, HD2.out, (hfd.mid hm).mono hvw, hHeld.toBelow (Below.refl _ _) (fun k hk => hk.elim) (Nat.le_refl _)⟩
      ·
        go_simp
        refine hK.out _ _ (hHeld.al _) (fun hNew => ?_)
        have hY : V.heap.size ≤ wc0.heap.size := hHeld.size
        clear hHeld hK K
        have hHeld := hNew
        clear hNew
        try simp only [Act.put, PA, PB]
        refine at_anyH (fun v => GB (fun _ => False) V v ∧ BK v (wc0.heap.size) [.int .i64 0, .int .i64 0]) ⟨hHeld, BK.new _ _ _⟩ (fun wc90 hS => ?_)
        clear hHeld
        obtain ⟨hHeld, BY⟩ := hS
        refine wpAnyH_ready (rs := [3, 11]) (by kernel_rfl) (by simp) (AllReadyH.cons (o := _) rfl (fun K hK => ?_) (AllReadyH.cons (o := _) rfl (fun K hK => ?_) AllReadyH.nil))
        ·
          go_simp
          refine (WH.out _).mono ?_
          rintro e wc91 ⟨rfl, hb3⟩
          go_wp2_with fail
          refine hK.out _ _ (hHeld.below hb3) (fun hNew => ?_)
          replace BY := BY.keep hb3
          clear hb3
          clear hHeld hK K
          have hHeld := hNew
          clear hNew
          try simp only [Act.put, PA, PB]
          refine wpAnyH_ready (rs := [6, 11]) (by kernel_rfl) (by simp) (AllReadyH.cons (o := _) rfl (fun K hK => ?_) (AllReadyH.cons (o := _) rfl (fun K hK => ?_) AllReadyH.nil))
          ·
            go_simp
            refine (VL.out _ (hHeld.toBelow hbb (fun k hk => hk.elim) (by omega))).mono ?_
            rintro e wc92 hput
            obtain ⟨A2, m2, ca2, Q2, n2, cq2, l2, rfl, hb3, hm2, hn2, hd2, hfd⟩ := hput.yes HE.out HT.out
            clear hput
            have HM2 := Lib.hid hm2
            have HN2 := Lib.hid hn2
            have HD2 := Lib.hid hd2
            clear hm2 hn2 hd2
            rw [HQX.out, HQY.out]
            have hm := Mid.refl wc91.heap.size wc92
            have hvw := hHeld.size
            go_wp2_with fail
            refine hK.out _ _ (hHeld.below hb3) (fun hNew => ?_)
            have cY := BY.lt
            replace BY := BY.keep hb3
            clear hb3
            clear hHeld hK K
            have hHeld := hNew
            clear hNew
            try simp only [Act.put, PA, PB]
            refine wpAnyH_take (i := 7) (oi := _) (v := ?vc93) rfl (by kernel_rfl) (by kernel_rfl) (by kernel_rfl) (fun _ _ _ h => h) (Or.inl ⟨by kernel_rfl, ?hyc93⟩) hHeld ?restc93
            case hyc93 => (intro w hSw; go_simp; first | done | (with_reducible rfl))
            try simp only [Act.put, PA, PB]
            refine wpAnyH_take (i := 8) (oi := _) (v := ?vc94) rfl (by kernel_rfl) (by kernel_rfl) (by kernel_rfl) (fun _ _ _ h => h) (Or.inl ⟨by kernel_rfl, ?hyc94⟩) hHeld ?restc94
            case hyc94 => (intro w hSw; go_simp; first | done | (with_reducible rfl))
            try simp only [Act.put, PA, PB]
            refine wpAnyH_take (i := 9) (oi := _) (v := ?vc95) rfl (by kernel_rfl) (by kernel_rfl) (by kernel_rfl) (fun _ _ _ h => h) (Or.inl ⟨by kernel_rfl, ?hyc95⟩) hHeld ?restc95
            case hyc95 => (intro w hSw; go_simp; first | done | (with_reducible rfl))
            try simp only [Act.put, PA, PB]
            refine wpAnyH_take (i := 10) (oi := _) (v := ?vc96) rfl (by kernel_rfl) (by kernel_rfl) (by kernel_rfl) (fun _ _ _ h => h) (Or.inl ⟨by kernel_rfl, ?hyc96⟩) hHeld ?restc96
            case hyc96 => (intro w hSw; go_simp; first | done | (with_reducible rfl))
            try simp only [Act.put, PA, PB]
            refine wpAnyH_ready (rs := [11]) (by kernel_rfl) (by simp) (AllReadyH.cons (o := _) rfl (fun K hK => ?_) AllReadyH.nil)
            go_simp
            refine hK.out _ _ (hHeld.al _) (fun hNew => ?_)
            have hX : V.heap.size ≤ wc92.heap.size := hHeld.size
            have dYX := BY.lt
            clear hHeld hK K
            have hHeld := hNew
            clear hNew
            try simp only [Act.put, PA, PB]
            have gXhm := hm.size
            refine at_anyH (fun v => GB (fun _ => False) V v ∧ BK v (wc0.heap.size) [.int .i64 0, .int .i64 0] ∧ BK v (wc92.heap.size) [.slice none 0 0, .slice none 0 0] ∧ Mid wc91.heap.size wc92 v) ⟨hHeld, BY.al _, BK.new _ _ _, hm.al _⟩ (fun wc97 hS => ?_)
            clear hHeld BY hm
            obtain ⟨hHeld, BY, BX, hm⟩ := hS
            refine wpAnyH_ready (rs := [13]) (by kernel_rfl) (by simp) (AllReadyH.cons (o := _) rfl (fun K hK => ?_) AllReadyH.nil)
            have n0 := BX.c 0 rfl
            have f0 := BX.f 0 rfl
            have n1 := BX.c 1 rfl
            have f1 := BX.f 1 rfl
            go_simp
            clear n0 f0 n1 f1
            refine hK.out _ _ ((hHeld.set (.inr hX) _).set (.inr hX) _) (fun hNew => ?_)
            clear hHeld hK K
            have hHeld := hNew
            clear hNew
            try simp only [Act.put, PA, PB]
            refine at_anyH (fun v => GB (fun _ => False) V v ∧ BK v (wc0.heap.size) [.int .i64 0, .int .i64 0] ∧ BK v (wc92.heap.size) [.slice A2 m2 ca2, .slice Q2 n2 cq2] ∧ Mid wc91.heap.size wc92 v) ⟨hHeld, ((BY.far (by omega) _ _).far (by omega) _ _), ((BX.set 0 _).set 1 _), ((hm.set (by omega) _).set (by omega) _)⟩ (fun wc98 hS => ?_)
            clear hHeld BY BX hm
            obtain ⟨hHeld, BY, BX, hm⟩ := hS
            refine wpAnyH_ready (rs := [14]) (by kernel_rfl) (by simp) (AllReadyH.cons (o := _) rfl (fun K hK => ?_) AllReadyH.nil)
            have n0 := BY.c 0 rfl
            have f0 := BY.f 0 rfl
            have n1 := BY.c 1 rfl
            have f1 := BY.f 1 rfl
            go_simp
            clear n0 f0 n1 f1
            refine hK.out _ _ ((hHeld.set (.inr hY) _).set (.inr hY) _) (fun hNew => ?_)
            clear hHeld hK K
            have hHeld := hNew
            clear hNew
            try simp only [Act.put, PA, PB]
            refine at_anyH (fun v => GB (fun _ => False) V v ∧ BK v (wc0.heap.size) [.int .i64 qx, .int .i64 qy] ∧ BK v (wc92.heap.size) [.slice A2 m2 ca2, .slice Q2 n2 cq2] ∧ Mid wc91.heap.size wc92 v) ⟨hHeld, ((BY.set 0 _).set 1 _), ((BX.far (by omega) _ _).far (by omega) _ _), ((hm.set (by omega) _).set (by omega) _)⟩ (fun wc99 hS => ?_)
            clear hHeld BY BX hm
            obtain ⟨hHeld, BY, BX, hm⟩ := hS
            refine wpAnyH_take (i := 15) (oi := _) (v := ?vc100) rfl (by kernel_rfl) (by kernel_rfl) (by kernel_rfl) (fun _ _ _ h => h) (Or.inl ⟨by kernel_rfl, ?hyc100⟩) hHeld ?restc100
            case hyc100 => (intro w hSw; go_simp; first | done | (with_reducible rfl))
            try simp only [Act.put, PA, PB]
            refine wpAnyH_done (by kernel_rfl) ?_ _
            go_wp2_with fail
            go_meet
            exact ⟨_, _, A2, m2, ca2, Q2, n2, cq2, l2, rfl, rfl, BX, BY, hX, hY, HM2.out, HN2.out, HD2.out, (hfd.mid hm).mono hvw, hHeld.toBelow (Below.refl _ _) (fun k hk => hk.elim) (Nat.le_refl _)⟩
          ·
            go_simp
            refine hK.out _ _ (hHeld.al _) (fun hNew => ?_)
            have hX : V.heap.size ≤ wc91.heap.size := hHeld.size
            have dYX := BY.lt
            clear hHeld hK K
            have hHeld := hNew
            clear hNew
            try simp only [Act.put, PA, PB]
            refine at_anyH (fun v => GB (fun _ => False) V v ∧ BK v (wc0.heap.size) [.int .i64 0, .int .i64 0] ∧ BK v (wc91.heap.size) [.slice none 0 0, .slice none 0 0]) ⟨hHeld, BY.al _, BK.new _ _ _⟩ (fun wc101 hS => ?_)
            clear hHeld BY
            obtain ⟨hHeld, BY, BX⟩ := hS
            refine wpAnyH_ready (rs := [6]) (by kernel_rfl) (by simp) (AllReadyH.cons (o := _) rfl (fun K hK => ?_) AllReadyH.nil)
            go_simp
            refine (VL.out _ (hHeld.toBelow hbb (fun k hk => hk.elim) (by omega))).mono ?_
            rintro e wc102 hput
            obtain ⟨A2, m2, ca2, Q2, n2, cq2, l2, rfl, hb3, hm2, hn2, hd2, hfd⟩ := hput.yes HE.out HT.out
            clear hput
            have HM2 := Lib.hid hm2
            have HN2 := Lib.hid hn2
            have HD2 := Lib.hid hd2
            clear hm2 hn2 hd2
            rw [HQX.out, HQY.out]
            have hm := Mid.refl wc101.heap.size wc102
            have hvw := hHeld.size
            go_wp2_with fail
            refine hK.out _ _ (hHeld.below hb3) (fun hNew => ?_)
            have cY := BY.lt
            replace BY := BY.keep hb3
            have cX := BX.lt
            replace BX := BX.keep hb3
            clear hb3
            clear hHeld hK K
            have hHeld := hNew
            clear hNew
            try simp only [Act.put, PA, PB]
            refine wpAnyH_take (i := 7) (oi := _) (v := ?vc103) rfl (by kernel_rfl) (by kernel_rfl) (by kernel_rfl) (fun _ _ _ h => h) (Or.inl ⟨by kernel_rfl, ?hyc103⟩) hHeld ?restc103
            case hyc103 => (intro w hSw; go_simp; first | done | (with_reducible rfl))
            try simp only [Act.put, PA, PB]
            refine wpAnyH_take (i := 8) (oi := _) (v := ?vc104) rfl (by kernel_rfl) (by kernel_rfl) (by kernel_rfl) (fun _ _ _ h => h) (Or.inl ⟨by kernel_rfl, ?hyc104⟩) hHeld ?restc104
            case hyc104 => (intro w hSw; go_simp; first | done | (with_reducible rfl))
            try simp only [Act.put, PA, PB]
            refine wpAnyH_take (i := 9) (oi := _) (v := ?vc105) rfl (by kernel_rfl) (by kernel_rfl) (by kernel_rfl) (fun _ _ _ h => h) (Or.inl ⟨by kernel_rfl, ?hyc105⟩) hHeld ?restc105
            case hyc105 => (intro w hSw; go_simp; first | done | (with_reducible rfl))
            try simp only [Act.put, PA, PB]
            refine wpAnyH_take (i := 10) (oi := _) (v := ?vc106) rfl (by kernel_rfl) (by kernel_rfl) (by kernel_rfl) (fun _ _ _ h => h) (Or.inl ⟨by kernel_rfl, ?hyc106⟩) hHeld ?restc106
            case hyc106 => (intro w hSw; go_simp; first | done | (with_reducible rfl))
            try simp only [Act.put, PA, PB]
            refine wpAnyH_ready (rs := [13]) (by kernel_rfl) (by simp) (AllReadyH.cons (o := _) rfl (fun K hK => ?_) AllReadyH.nil)
            have n0 := BX.c 0 rfl
            have f0 := BX.f 0 rfl
            have n1 := BX.c 1 rfl
            have f1 := BX.f 1 rfl
            go_simp
            clear n0 f0 n1 f1
            refine hK.out _ _ ((hHeld.set (.inr hX) _).set (.inr hX) _) (fun hNew => ?_)
            clear hHeld hK K
            have hHeld := hNew
            clear hNew
            try simp only [Act.put, PA, PB]
            refine at_anyH (fun v => GB (fun _ => False) V v ∧ BK v (wc0.heap.size) [.int .i64 0, .int .i64 0] ∧ BK v (wc91.heap.size) [.slice A2 m2 ca2, .slice Q2 n2 cq2] ∧ Mid wc101.heap.size wc102 v) ⟨hHeld, ((BY.far (by omega) _ _).far (by omega) _ _), ((BX.set 0 _).set 1 _), ((hm.set (by omega) _).set (by omega) _)⟩ (fun wc107 hS => ?_)
            clear hHeld BY BX hm
            obtain ⟨hHeld, BY, BX, hm⟩ := hS
            refine wpAnyH_ready (rs := [14]) (by kernel_rfl) (by simp) (AllReadyH.cons (o := _) rfl (fun K hK => ?_) AllReadyH.nil)
            have n0 := BY.c 0 rfl
            have f0 := BY.f 0 rfl
            have n1 := BY.c 1 rfl
            have f1 := BY.f 1 rfl
            go_simp
            clear n0 f0 n1 f1
            refine hK.out _ _ ((hHeld.set (.inr hY) _).set (.inr hY) _) (fun hNew => ?_)
            clear hHeld hK K
            have hHeld := hNew
            clear hNew
            try simp only [Act.put, PA, PB]
            refine at_anyH (fun v => GB (fun _ => False) V v ∧ BK v (wc0.heap.size) [.int .i64 qx, .int .i64 qy] ∧ BK v (wc91.heap.size) [.slice A2 m2 ca2, .slice Q2 n2 cq2] ∧ Mid wc101.heap.size wc102 v) ⟨hHeld, ((BY.set 0 _).set 1 _), ((BX.far (by omega) _ _).far (by omega) _ _), ((hm.set (by omega) _).set (by omega) _)⟩ (fun wc108 hS => ?_)
            clear hHeld BY BX hm
            obtain ⟨hHeld, BY, BX, hm⟩ := hS
            refine wpAnyH_take (i := 15) (oi := _) (v := ?vc109) rfl (by kernel_rfl) (by kernel_rfl) (by kernel_rfl) (fun _ _ _ h => h) (Or.inl ⟨by kernel_rfl, ?hyc109⟩) hHeld ?restc109
            case hyc109 => (intro w hSw; go_simp; first | done | (with_reducible rfl))
            try simp only [Act.put, PA, PB]
            refine wpAnyH_done (by kernel_rfl) ?_ _
            go_wp2_with fail
            go_meet
            exact ⟨_, _, A2, m2, ca2, Q2, n2, cq2, l2, rfl, rfl, BX, BY, hX, hY, HM2.out, HN2.out, HD2.out, (hfd.mid hm).mono hvw, hHeld.toBelow (Below.refl _ _) (fun k hk => hk.elim) (Nat.le_refl _)⟩
        ·
          go_simp
          refine hK.out _ _ (hHeld.al _) (fun hNew => ?_)
          have hX : V.heap.size ≤ wc90.heap.size := hHeld.size
          have dYX := BY.lt
          clear hHeld hK K
          have hHeld := hNew
          clear hNew
          try simp only [Act.put, PA, PB]
          refine at_anyH (fun v => GB (fun _ => False) V v ∧ BK v (wc0.heap.size) [.int .i64 0, .int .i64 0] ∧ BK v (wc90.heap.size) [.slice none 0 0, .slice none 0 0]) ⟨hHeld, BY.al _, BK.new _ _ _⟩ (fun wc110 hS => ?_)
          clear hHeld BY
          obtain ⟨hHeld, BY, BX⟩ := hS
          refine wpAnyH_ready (rs := [3]) (by kernel_rfl) (by simp) (AllReadyH.cons (o := _) rfl (fun K hK => ?_) AllReadyH.nil)
          go_simp
          refine (WH.out _).mono ?_
          rintro e wc111 ⟨rfl, hb3⟩
          go_wp2_with fail
          refine hK.out _ _ (hHeld.below hb3) (fun hNew => ?_)
          replace BY := BY.keep hb3
          replace BX := BX.keep hb3
          clear hb3
          clear hHeld hK K
          have hHeld := hNew
          clear hNew
          try simp only [Act.put, PA, PB]
          refine wpAnyH_ready (rs := [6]) (by kernel_rfl) (by simp) (AllReadyH.cons (o := _) rfl (fun K hK => ?_) AllReadyH.nil)
          go_simp
          refine (VL.out _ (hHeld.toBelow hbb (fun k hk => hk.elim) (by omega))).mono ?_
          rintro e wc112 hput
          obtain ⟨A2, m2, ca2, Q2, n2, cq2, l2, rfl, hb3, hm2, hn2, hd2, hfd⟩ := hput.yes HE.out HT.out
          clear hput
          have HM2 := Lib.hid hm2
          have HN2 := Lib.hid hn2
          have HD2 := Lib.hid hd2
          clear hm2 hn2 hd2
          rw [HQX.out, HQY.out]
          have hm := Mid.refl wc111.heap.size wc112
          have hvw := hHeld.size
          go_wp2_with fail
          refine hK.out _ _ (hHeld.below hb3) (fun hNew => ?_)
          have cY := BY.lt
          replace BY := BY.keep hb3
          have cX := BX.lt
          replace BX := BX.keep hb3
          clear hb3
          clear hHeld hK K
          have hHeld := hNew
          clear hNew
          try simp only [Act.put, PA, PB]
          refine wpAnyH_take (i := 7) (oi := _) (v := ?vc113) rfl (by kernel_rfl) (by kernel_rfl) (by kernel_rfl) (fun _ _ _ h => h) (Or.inl ⟨by kernel_rfl, ?hyc113⟩) hHeld ?restc113
          case hyc113 => (intro w hSw; go_simp; first | done | (with_reducible rfl))
          try simp only [Act.put, PA, PB]
          refine wpAnyH_take (i := 8) (oi := _) (v := ?vc114) rfl (by kernel_rfl) (by kernel_rfl) (by kernel_rfl) (fun _ _ _ h => h) (Or.inl ⟨by kernel_rfl, ?hyc114⟩) hHeld ?restc114
          case hyc114 => (intro w hSw; go_simp; first | done | (with_reducible rfl))
          try simp only [Act.put, PA, PB]
          refine wpAnyH_take (i := 9) (oi := _) (v := ?vc115) rfl (by kernel_rfl) (by kernel_rfl) (by kernel_rfl) (fun _ _ _ h => h) (Or.inl ⟨by kernel_rfl, ?hyc115⟩) hHeld ?restc115
          case hyc115 => (intro w hSw; go_simp; first | done | (with_reducible rfl))
          try simp only [Act.put, PA, PB]
          refine wpAnyH_take (i := 10) (oi := _) (v := ?vc116) rfl (by kernel_rfl) (by kernel_rfl) (by kernel_rfl) (fun _ _ _ h => h) (Or.inl ⟨by kernel_rfl, ?hyc116⟩) hHeld ?restc116
          case hyc116 => (intro w hSw; go_simp; first | done | (with_reducible rfl))
          try simp only [Act.put, PA, PB]
          refine wpAnyH_ready (rs := [13]) (by kernel_rfl) (by simp) (AllReadyH.cons (o := _) rfl (fun K hK => ?_) AllReadyH.nil)
          have n0 := BX.c 0 rfl
          have f0 := BX.f 0 rfl
          have n1 := BX.c 1 rfl
          have f1 := BX.f 1 rfl
          go_simp
          clear n0 f0 n1 f1
          refine hK.out _ _ ((hHeld.set (.inr hX) _).set (.inr hX) _) (fun hNew => ?_)
          clear hHeld hK K
          have hHeld := hNew
          clear hNew
          try simp only [Act.put, PA, PB]
          refine at_anyH (fun v => GB (fun _ => False) V v ∧ BK v (wc0.heap.size) [.int .i64 0, .int .i64 0] ∧ BK v (wc90.heap.size) [.slice A2 m2 ca2, .slice Q2 n2 cq2] ∧ Mid wc111.heap.size wc112 v) ⟨hHeld, ((BY.far (by omega) _ _).far (by omega) _ _), ((BX.set 0 _).set 1 _), ((hm.set (by omega) _).set (by omega) _)⟩ (fun wc117 hS => ?_)
          clear hHeld BY BX hm
          obtain ⟨hHeld, BY, BX, hm⟩ := hS
          refine wpAnyH_ready (rs := [14]) (by kernel_rfl) (by simp) (AllReadyH.cons (o := _) rfl (fun K hK => ?_) AllReadyH.nil)
          have n0 := BY.c 0 rfl
          have f0 := BY.f 0 rfl
          have n1 := BY.c 1 rfl
          have f1 := BY.f 1 rfl
          go_simp
          clear n0 f0 n1 f1
          refine hK.out _ _ ((hHeld.set (.inr hY) _).set (.inr hY) _) (fun hNew => ?_)
          clear hHeld hK K
          have hHeld := hNew
          clear hNew
          try simp only [Act.put, PA, PB]
          refine at_anyH (fun v => GB (fun _ => False) V v ∧ BK v (wc0.heap.size) [.int .i64 qx, .int .i64 qy] ∧ BK v (wc90.heap.size) [.slice A2 m2 ca2, .slice Q2 n2 cq2] ∧ Mid wc111.heap.size wc112 v) ⟨hHeld, ((BY.set 0 _).set 1 _), ((BX.far (by omega) _ _).far (by omega) _ _), ((hm.set (by omega) _).set (by omega) _)⟩ (fun wc118 hS => ?_)
          clear hHeld BY BX hm
          obtain ⟨hHeld, BY, BX, hm⟩ := hS
          refine wpAnyH_take (i := 15) (oi := _) (v := ?vc119) rfl (by kernel_rfl) (by kernel_rfl) (by kernel_rfl) (fun _ _ _ h => h) (Or.inl ⟨by kernel_rfl, ?hyc119⟩) hHeld ?restc119
          case hyc119 => (intro w hSw; go_simp; first | done | (with_reducible rfl))
          try simp only [Act.put, PA, PB]
          refine wpAnyH_done (by kernel_rfl) ?_ _
          go_wp2_with fail
          go_meet
          exact ⟨_, _, A2, m2, ca2, Q2, n2, cq2, l2, rfl, rfl, BX, BY, hX, hY, HM2.out, HN2.out, HD2.out, (hfd.mid hm).mono hvw, hHeld.toBelow (Below.refl _ _) (fun k hk => hk.elim) (Nat.le_refl _)⟩
  case rest =>
    obtain ⟨p4', p5', A2, m2, ca2, Q2, n2, cq2, l2, rfl, rfl, B4, B5, hp4, hp5, hm2, hn2, hd2, hfd, hb⟩ := hcut
    clear p0 p1 p4 p5
    have HM2 := Lib.hid hm2
    have HN2 := Lib.hid hn2
    have HD2 := Lib.hid hd2
    clear hm2 hn2 hd2
    replace hbb := keepB hbb hb
    replace B0 := B0.keep hb
    replace B1 := B1.keep hb
    have hV1 := hb.size
    clear hb
    go_upto_region 3 with fail
    refine at_worldQ (fun v => Below w.heap.size w v ∧ BK v w.heap.size [.slice A cs.length ca, .slice Q qs.length cq, .int .i64 k, .int .i64 st, .int .i64 x, .int .i64 y, .bool b] ∧ BK v (w.heap.size + 1) [.slice none 0 0, .slice none 0 0, .int .i64 0, .int .i64 0, .int .i64 0, .int .i64 0, .bool false] ∧ BK v p4' [.slice A2 m2 ca2, .slice Q2 n2 cq2] ∧ BK v p5' [.int .i64 qx, .int .i64 qy] ∧ FD v (w.heap.size + 2) A2 ca2 l2 Q2 cq2 (qs ++ [q]) ∧ w.heap.size ≤ v.heap.size ∧ w.heap.size + 2 ≤ p4') ⟨hbb, B0, B1, B4, B5, hfd.mono hV0, by omega, by omega⟩ (fun V hS => ?_)
    clear hbb B0 B1 B4 B5 hfd hV0 hV1 hp4 hp5
    obtain ⟨hbb, B0, B1, B4, B5, hfd, hBV, hp4⟩ := hS
    have p0 := B0.c 0 rfl
    have p1 := B0.c 1 rfl
    have e0 := B5.c 0 rfl
    have e1 := B5.c 1 rfl
    refine wp_region_noPanic ?_
    refine wp_region_held_drew (S := (GB (fun _ => False) V)) (by kernel_rfl) ((GB.refl _ _).drew) (fun hHeld => ?_)
    refine at_anyH (fun v => GB (fun _ => False) V v) hHeld (fun wd0 hNew => ?_)
    clear hHeld
    have hHeld := hNew
    clear hNew
    refine wpAnyH_take (i := 0) (oi := _) (v := ?vd1) rfl (by kernel_rfl) (by kernel_rfl) (by kernel_rfl) (fun _ _ _ h => h) (Or.inl ⟨by kernel_rfl, ?hyd1⟩) hHeld ?restd1
    case hyd1 => (intro w hSw; have kp0 := hSw.cell (fun h => h) p0; have kp1 := hSw.cell (fun h => h) p1; have ke0 := hSw.cell (fun h => h) e0; have ke1 := hSw.cell (fun h => h) e1; go_simp; first | done | (with_reducible rfl))
    try simp only [Act.put, PA, PB]
    refine wpAnyH_take (i := 1) (oi := _) (v := ?vd2) rfl (by kernel_rfl) (by kernel_rfl) (by kernel_rfl) (fun _ _ _ h => h) (Or.inl ⟨by kernel_rfl, ?hyd2⟩) hHeld ?restd2
    case hyd2 => (intro w hSw; go_simp; first | done | (with_reducible rfl))
    try simp only [Act.put, PA, PB]
    refine wpAnyH_take (i := 2) (oi := _) (v := ?vd3) rfl (by kernel_rfl) (by kernel_rfl) (by kernel_rfl) (fun _ _ _ h => h) (Or.inl ⟨by kernel_rfl, ?hyd3⟩) hHeld ?restd3
    case hyd3 => (intro w hSw; have kp0 := hSw.cell (fun h => h) p0; have kp1 := hSw.cell (fun h => h) p1; have ke0 := hSw.cell (fun h => h) e0; have ke1 := hSw.cell (fun h => h) e1; go_simp; first | done | (with_reducible rfl))
    try simp only [Act.put, PA, PB]
    refine wpAnyH_take (i := 3) (oi := _) (v := ?vd4) rfl (by kernel_rfl) (by kernel_rfl) (by kernel_rfl) (fun _ _ _ h => h) (Or.inl ⟨by kernel_rfl, ?hyd4⟩) hHeld ?restd4
    case hyd4 => (intro w hSw; go_simp; first | done | (with_reducible rfl))
    try simp only [Act.put, PA, PB]
    refine wpAnyH_ready (rs := [4]) (by kernel_rfl) (by simp) (AllReadyH.cons (o := _) rfl (fun K hK => ?_) AllReadyH.nil)
    go_simp
    refine (HF.out _ (hHeld.toBelow hbb (fun k hk => hk.elim) hBV)).mono ?_
    rintro e wd5 ⟨rfl, hb3⟩
    go_wp2_with fail
    refine hK.out _ _ (hHeld.below hb3) (fun hNew => ?_)
    clear hb3
    clear hHeld hK K
    have hHeld := hNew
    clear hNew
    try simp only [Act.put, PA, PB]
    refine wpAnyH_ready (rs := [5]) (by kernel_rfl) (by simp) (AllReadyH.cons (o := _) rfl (fun K hK => ?_) AllReadyH.nil)
    go_simp
    refine (CM.out _).mono ?_
    rintro e wd6 ⟨rfl, hb3⟩
    go_wp2_with fail
    refine hK.out _ _ (hHeld.below hb3) (fun hNew => ?_)
    clear hb3
    clear hHeld hK K
    have hHeld := hNew
    clear hNew
    try simp only [Act.put, PA, PB]
    refine wpAnyH_take (i := 6) (oi := _) (v := ?vd7) rfl (by kernel_rfl) (by kernel_rfl) (by kernel_rfl) (fun _ _ _ h => h) (Or.inl ⟨by kernel_rfl, ?hyd7⟩) hHeld ?restd7
    case hyd7 => (intro w hSw; go_simp; first | done | (with_reducible rfl))
    try simp only [Act.put, PA, PB]
    refine wpAnyH_take (i := 7) (oi := _) (v := ?vd8) rfl (by kernel_rfl) (by kernel_rfl) (by kernel_rfl) (fun _ _ _ h => h) (Or.inl ⟨by kernel_rfl, ?hyd8⟩) hHeld ?restd8
    case hyd8 => (intro w hSw; go_simp; first | done | (with_reducible rfl))
    try simp only [Act.put, PA, PB]
    refine wpAnyH_take (i := 8) (oi := _) (v := ?vd9) rfl (by kernel_rfl) (by kernel_rfl) (by kernel_rfl) (fun _ _ _ h => h) (Or.inl ⟨by kernel_rfl, ?hyd9⟩) hHeld ?restd9
    case hyd9 => (intro w hSw; go_simp; first | done | (with_reducible rfl))
    try simp only [Act.put, PA, PB]
    refine wpAnyH_take (i := 9) (oi := _) (v := ?vd10) rfl (by kernel_rfl) (by kernel_rfl) (by kernel_rfl) (fun _ _ _ h => h) (Or.inl ⟨by kernel_rfl, ?hyd10⟩) hHeld ?restd10
    case hyd10 => (intro w hSw; go_simp; first | done | (with_reducible rfl))
    try simp only [Act.put, PA, PB]
    refine wpAnyH_take (i := 10) (oi := _) (v := ?vd11) rfl (by kernel_rfl) (by kernel_rfl) (by kernel_rfl) (fun _ _ _ h => h) (Or.inl ⟨by kernel_rfl, ?hyd11⟩) hHeld ?restd11
    case hyd11 => (intro w hSw; go_simp; first | done | (with_reducible rfl))
    try simp only [Act.put, PA, PB]
    refine wpAnyH_done (by kernel_rfl) ?_ _
    refine NoPanic.normal ?_
    have hbb2 := hHeld.toBelow hbb (fun k hk => hk.elim) hBV
    have B0 := B0.gb hHeld (fun h => h)
    have B1 := B1.gb hHeld (fun h => h)
    have B4 := B4.gb hHeld (fun h => h)
    have hfd2 := hfd.keep (hHeld.toBelow (Below.refl _ _) (fun k hk => hk.elim) (Nat.le_refl _))
    have hlt := B1.lt
    have hlt4 := B4.lt
    clear hfd B5
    have xa0 := B0.c 0 rfl
    have xa1 := B0.c 1 rfl
    have xa2 := B0.c 2 rfl
    have xa3 := B0.c 3 rfl
    have xa4 := B0.c 4 rfl
    have xa5 := B0.c 5 rfl
    have xa6 := B0.c 6 rfl
    have xb0 := B0.f 0 rfl
    have xb1 := B0.f 1 rfl
    have xb2 := B0.f 2 rfl
    have xb3 := B0.f 3 rfl
    have xb4 := B0.f 4 rfl
    have xb5 := B0.f 5 rfl
    have xb6 := B0.f 6 rfl
    have ya0 := B1.c 0 rfl
    have ya1 := B1.c 1 rfl
    have ya2 := B1.c 2 rfl
    have ya3 := B1.c 3 rfl
    have ya4 := B1.c 4 rfl
    have ya5 := B1.c 5 rfl
    have ya6 := B1.c 6 rfl
    have yb0 := B1.f 0 rfl
    have yb1 := B1.f 1 rfl
    have yb2 := B1.f 2 rfl
    have yb3 := B1.f 3 rfl
    have yb4 := B1.f 4 rfl
    have yb5 := B1.f 5 rfl
    have yb6 := B1.f 6 rfl
    have ze0 := B4.c 0 rfl
    have ze1 := B4.c 1 rfl
    go_wp2_with fail
    exact bodyPost_ret (v := .agg #[.slice A2 m2 ca2, .slice Q2 n2 cq2, .int .i64 k, .int .i64 2, .int .i64 x, .int .i64 y, .bool (decide (0 ≤ z))]) (by simp [results, Try.results105, go_sem, ya0, ya1, ya2, ya3, ya4, ya5, ya6]) rfl ⟨A2, m2, ca2, Q2, n2, cq2, l2, rfl, (below_set (below_set (below_set (below_set (below_set (below_set (below_set (below_set (below_set (below_set (below_set hbb2 (by omega) _) (by omega) _) (by omega) _) (by omega) _) (by omega) _) (by omega) _) (by omega) _) (by omega) _) (by omega) _) (by omega) _) (by omega) _), HM2.out, HN2.out, HD2.out, ((((((((((((hfd2.set (by omega) _).set (by omega) _).set (by omega) _).set (by omega) _).set (by omega) _).set (by omega) _).set (by omega) _).set (by omega) _).set (by omega) _).set (by omega) _).set (by omega) _).mono (by omega))⟩
end Go.Proofs.Ytnnpmegknlgkoaa
