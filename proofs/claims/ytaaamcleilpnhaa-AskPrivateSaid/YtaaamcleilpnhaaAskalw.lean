/- alive of layer 4: the chapter's examples hold. -/
import Derived.Test.YtaaamcleilpnhaaSd
namespace Go.Proofs.Ytaaamcleilpnhaa
open Go.RowKit
set_option linter.unusedSimpArgs false in
set_option maxHeartbeats 8000000 in
set_option maxRecDepth 100000 in
theorem alive4_any (w : World) : Calls Try.prog 29 #[] w fun e w' => e = .returned (.bool true) ∧ Below w.heap.size w w' := by
  go_enter Try.func29, Try.ntmps29
  go_wp2_with fail
  refine (two4_any _).mono ?_
  rintro e w1 ⟨P0, l0, rfl, hl0, hdat0, hcr0⟩
  have OP := Lib.hid (al4_open (some ⟨P0, 0, none⟩) 2 l0 w1 hl0 hdat0 (hcr0.isCs hl0.symm (by unfold maxLen; omega)))
  have hbb := hcr0.bb
  clear hcr0 hdat0 hl0
  go_wp2_with fail
  refine OP.out.mono ?_
  rintro e w2 ⟨hb, A1, ca1, l1, Q1, cq1, rfl, hl1, hd1, hfd1⟩
  replace hbb := keepB hbb hb
  clear hb OP
  go_upto_region 2 with fail
  refine at_worldQ (fun v => Below w.heap.size w v ∧ BK v w2.heap.size [.slice A1 2 ca1, .slice Q1 0 cq1] ∧ IsCs v A1 l1 ∧ IsQs v Q1 []) ⟨below_al hbb _, BK.new w2 [.slice A1 2 ca1, .slice Q1 0 cq1] _, hfd1.isCs.keep (below_al (Below.refl _ _) _), hfd1.isQs.keep (below_al (Below.refl _ _) _)⟩ (fun V2 hS => ?_)
  clear hbb hfd1
  obtain ⟨hbb, BP, hcs, hqs⟩ := hS
  generalize w2.heap.size = P1 at *
  have HD := Lib.hid hd1
  clear hd1
  have p0 := BP.c 0 rfl
  have p1 := BP.c 1 rfl
  go_wp2_with fail
  refine (al4_tot0 A1 ca1 l1 Q1 cq1 _ hl1 HD.out hcs).mono ?_
  rintro e w3 ⟨rfl, hb⟩
  clear p0 p1
  replace hbb := keepB hbb hb
  replace BP := BP.keep hb
  replace hcs := hcs.keep hb
  replace hqs := hqs.keep hb
  clear hb
  have p0 := BP.c 0 rfl
  have p1 := BP.c 1 rfl
  go_wp2_with fail
  refine (al4_tot1 A1 ca1 l1 Q1 cq1 _ hl1 HD.out hcs).mono ?_
  rintro e w4 ⟨rfl, hb⟩
  clear p0 p1
  replace hbb := keepB hbb hb
  replace BP := BP.keep hb
  replace hcs := hcs.keep hb
  replace hqs := hqs.keep hb
  clear hb
  go_upto_region 4 with fail
  refine at_worldQ (fun v => Below w.heap.size w v ∧ w.heap.size ≤ v.heap.size ∧ BK v P1 [.slice A1 2 ca1, .slice Q1 0 cq1] ∧ IsCs v A1 l1 ∧ IsQs v Q1 []) ⟨hbb, hbb.size, BP, hcs, hqs⟩ (fun V4 hS => ?_)
  clear hbb BP hcs hqs
  obtain ⟨hbb, hBV, BP, hcs, hqs⟩ := hS
  have MK := Lib.hid (fun v (hv : Below V4.heap.size V4 v) => al4_mark0 A1 ca1 l1 Q1 cq1 v hl1 HD.out (hcs.keep hv) (hqs.keep hv))
  have p0 := BP.c 0 rfl
  have p1 := BP.c 1 rfl
  clear hcs hqs HD hl1
  go_cut [7, 8, 9] (fun x y z v => ∃ (p q : Nat) (A2 : Option Addr) (ca2 : Nat) (l2 : List CkR) (Q2 : Option Addr) (cq2 : Nat), x = .pointer (some ⟨p, 0, none⟩) ∧ y = .pointer (some ⟨q, 0, none⟩) ∧ z = .int .i64 0 ∧ l2.length = 2 ∧ l2.map Ak.dat = [(2, [0, 2], [1]), (2, [0, 1, 2], [3, 1])] ∧ IsCs v A2 l2 ∧ IsQs v Q2 [⟨0, 2, 0, 1, 1, 1, 1, 1⟩] ∧ BK v p [.slice A2 2 ca2, .slice Q2 1 cq2] ∧ BK v q [.int .i64 1, .int .i64 1] ∧ Below w.heap.size w v)
  case first =>
    as_aux_lemma =>
      refine wp_region_held_drew (S := (GB (fun _ => False) V4)) (by kernel_rfl) ((GB.refl _ _).drew) (fun hHeld => ?_)
      refine at_anyH (fun v => GB (fun _ => False) V4 v) hHeld (fun wa0 hNew => ?_)
      clear hHeld
      have hHeld := hNew
      clear hNew
      refine wpAnyH_take (i := 0) (oi := _) (v := ?va1) rfl (by kernel_rfl) (by kernel_rfl) (by kernel_rfl) (fun _ _ _ h => h) (Or.inl ⟨by kernel_rfl, ?hya1⟩) hHeld ?resta1
      case hya1 => (intro w hSw; have kp0 := hSw.cell (fun h => h) p0; have kp1 := hSw.cell (fun h => h) p1; go_simp; first | done | (with_reducible rfl))
      try simp only [Act.put, PL]
      refine wpAnyH_ready (rs := [1, 8, 9]) (by kernel_rfl) (by simp) (AllReadyH.cons (o := _) rfl (fun K hK => ?_) (AllReadyH.cons (o := _) rfl (fun K hK => ?_) (AllReadyH.cons (o := _) rfl (fun K hK => ?_) AllReadyH.nil)))
      · as_aux_lemma =>
       go_simp
       refine (of4_any 0 _).mono ?_
       rintro e wa2 ⟨rfl, hb3⟩
       go_wp2_with fail
       refine hK.out _ _ (hHeld.below hb3) (fun hNew => ?_)
       clear hb3
       clear hHeld hK K
       have hHeld := hNew
       clear hNew
       try simp only [Act.put, PL]
       refine wpAnyH_ready (rs := [2, 8, 9]) (by kernel_rfl) (by simp) (AllReadyH.cons (o := _) rfl (fun K hK => ?_) (AllReadyH.cons (o := _) rfl (fun K hK => ?_) (AllReadyH.cons (o := _) rfl (fun K hK => ?_) AllReadyH.nil)))
       · as_aux_lemma =>
        go_simp
        refine (of4_any 1 _).mono ?_
        rintro e wa3 ⟨rfl, hb3⟩
        go_wp2_with fail
        refine hK.out _ _ (hHeld.below hb3) (fun hNew => ?_)
        clear hb3
        clear hHeld hK K
        have hHeld := hNew
        clear hNew
        try simp only [Act.put, PL]
        refine wpAnyH_ready (rs := [3, 8, 9]) (by kernel_rfl) (by simp) (AllReadyH.cons (o := _) rfl (fun K hK => ?_) (AllReadyH.cons (o := _) rfl (fun K hK => ?_) (AllReadyH.cons (o := _) rfl (fun K hK => ?_) AllReadyH.nil)))
        · as_aux_lemma =>
         go_simp
         refine (MK.out _ (hHeld.toBelow (Below.refl _ _) (fun k hk => hk.elim) (Nat.le_refl _))).mono ?_
         rintro e wa4 ⟨hb3, A2, ca2, l2, Q2, cq2, rfl, hl2, hd2, hfd2⟩
         have hm := Mid.refl wa3.heap.size wa4
         go_wp2_with fail
         refine hK.out _ _ (hHeld.below hb3) (fun hNew => ?_)
         clear hb3
         clear hHeld hK K
         have hHeld := hNew
         clear hNew
         try simp only [Act.put, PL]
         refine wpAnyH_take (i := 4) (oi := _) (v := ?va5) rfl (by kernel_rfl) (by kernel_rfl) (by kernel_rfl) (fun _ _ _ h => h) (Or.inl ⟨by kernel_rfl, ?hya5⟩) hHeld ?resta5
         case hya5 => (intro w hSw; go_simp; first | done | (with_reducible rfl))
         try simp only [Act.put, PL]
         refine wpAnyH_take (i := 5) (oi := _) (v := ?va6) rfl (by kernel_rfl) (by kernel_rfl) (by kernel_rfl) (fun _ _ _ h => h) (Or.inl ⟨by kernel_rfl, ?hya6⟩) hHeld ?resta6
         case hya6 => (intro w hSw; go_simp; first | done | (with_reducible rfl))
         try simp only [Act.put, PL]
         refine wpAnyH_take (i := 6) (oi := _) (v := ?va7) rfl (by kernel_rfl) (by kernel_rfl) (by kernel_rfl) (fun _ _ _ h => h) (Or.inl ⟨by kernel_rfl, ?hya7⟩) hHeld ?resta7
         case hya7 => (intro w hSw; go_simp; first | done | (with_reducible rfl))
         try simp only [Act.put, PL]
         refine wpAnyH_take (i := 7) (oi := _) (v := ?va8) rfl (by kernel_rfl) (by kernel_rfl) (by kernel_rfl) (fun _ _ _ h => h) (Or.inl ⟨by kernel_rfl, ?hya8⟩) hHeld ?resta8
         case hya8 => (intro w hSw; go_simp; first | done | (with_reducible rfl))
         try simp only [Act.put, PL]
         refine wpAnyH_ready (rs := [8, 9]) (by kernel_rfl) (by simp) (AllReadyH.cons (o := _) rfl (fun K hK => ?_) (AllReadyH.cons (o := _) rfl (fun K hK => ?_) AllReadyH.nil))
         · as_aux_lemma =>
          go_simp
          refine hK.out _ _ (hHeld.al _) (fun hNew => ?_)
          have hX : V4.heap.size ≤ wa4.heap.size := hHeld.size
          clear hHeld hK K
          have hHeld := hNew
          clear hNew
          try simp only [Act.put, PL]
          have gXhm := hm.size
          refine at_anyH (fun v => GB (fun _ => False) V4 v ∧ BK v (wa4.heap.size) [.slice none 0 0, .slice none 0 0] ∧ Mid wa3.heap.size wa4 v) ⟨hHeld, BK.new _ _ _, hm.al _⟩ (fun wa9 hS => ?_)
          clear hHeld hm
          obtain ⟨hHeld, BX, hm⟩ := hS
          refine wpAnyH_ready (rs := [9]) (by kernel_rfl) (by simp) (AllReadyH.cons (o := _) rfl (fun K hK => ?_) AllReadyH.nil)
          go_simp
          refine hK.out _ _ (hHeld.al _) (fun hNew => ?_)
          have hY : V4.heap.size ≤ wa9.heap.size := hHeld.size
          have dXY := BX.lt
          clear hHeld hK K
          have hHeld := hNew
          clear hNew
          try simp only [Act.put, PL]
          have gYhm := hm.size
          refine at_anyH (fun v => GB (fun _ => False) V4 v ∧ BK v (wa4.heap.size) [.slice none 0 0, .slice none 0 0] ∧ BK v (wa9.heap.size) [.int .i64 0, .int .i64 0] ∧ Mid wa3.heap.size wa4 v) ⟨hHeld, BX.al _, BK.new _ _ _, hm.al _⟩ (fun wa10 hS => ?_)
          clear hHeld BX hm
          obtain ⟨hHeld, BX, BY, hm⟩ := hS
          refine wpAnyH_ready (rs := [10]) (by kernel_rfl) (by simp) (AllReadyH.cons (o := _) rfl (fun K hK => ?_) AllReadyH.nil)
          have n0 := BX.c 0 rfl
          have f0 := BX.f 0 rfl
          have n1 := BX.c 1 rfl
          have f1 := BX.f 1 rfl
          go_simp
          clear n0 f0 n1 f1
          refine hK.out _ _ ((hHeld.set (.inr hX) _).set (.inr hX) _) (fun hNew => ?_)
          clear hHeld hK K
          have hHeld := hNew
          clear hNew
          try simp only [Act.put, PL]
          refine at_anyH (fun v => GB (fun _ => False) V4 v ∧ BK v (wa4.heap.size) [.slice A2 2 ca2, .slice Q2 1 cq2] ∧ BK v (wa9.heap.size) [.int .i64 0, .int .i64 0] ∧ Mid wa3.heap.size wa4 v) ⟨hHeld, ((BX.set 0 _).set 1 _), ((BY.far (by omega) _ _).far (by omega) _ _), ((hm.set (by omega) _).set (by omega) _)⟩ (fun wa11 hS => ?_)
          clear hHeld BX BY hm
          obtain ⟨hHeld, BX, BY, hm⟩ := hS
          refine wpAnyH_ready (rs := [11]) (by kernel_rfl) (by simp) (AllReadyH.cons (o := _) rfl (fun K hK => ?_) AllReadyH.nil)
          have n0 := BY.c 0 rfl
          have f0 := BY.f 0 rfl
          have n1 := BY.c 1 rfl
          have f1 := BY.f 1 rfl
          go_simp
          clear n0 f0 n1 f1
          refine hK.out _ _ ((hHeld.set (.inr hY) _).set (.inr hY) _) (fun hNew => ?_)
          clear hHeld hK K
          have hHeld := hNew
          clear hNew
          try simp only [Act.put, PL]
          refine at_anyH (fun v => GB (fun _ => False) V4 v ∧ BK v (wa4.heap.size) [.slice A2 2 ca2, .slice Q2 1 cq2] ∧ BK v (wa9.heap.size) [.int .i64 1, .int .i64 1] ∧ Mid wa3.heap.size wa4 v) ⟨hHeld, ((BX.far (by omega) _ _).far (by omega) _ _), ((BY.set 0 _).set 1 _), ((hm.set (by omega) _).set (by omega) _)⟩ (fun wa12 hS => ?_)
          clear hHeld BX BY hm
          obtain ⟨hHeld, BX, BY, hm⟩ := hS
          refine wpAnyH_take (i := 12) (oi := _) (v := ?va13) rfl (by kernel_rfl) (by kernel_rfl) (by kernel_rfl) (fun _ _ _ h => h) (Or.inl ⟨by kernel_rfl, ?hya13⟩) hHeld ?resta13
          case hya13 => (intro w hSw; go_simp; first | done | (with_reducible rfl))
          try simp only [Act.put, PL]
          refine wpAnyH_done (by kernel_rfl) ?_ _
          go_wp2_with fail
          go_meet
          exact ⟨_, _, A2, ca2, l2, Q2, cq2, rfl, rfl, rfl, hl2, hd2, (hfd2.mid hm).isCs, (hfd2.mid hm).isQs, BX, BY, hHeld.toBelow hbb (fun k hk => hk.elim) hBV⟩
         · as_aux_lemma =>
          go_simp
          refine hK.out _ _ (hHeld.al _) (fun hNew => ?_)
          have hY : V4.heap.size ≤ wa4.heap.size := hHeld.size
          clear hHeld hK K
          have hHeld := hNew
          clear hNew
          try simp only [Act.put, PL]
          have gYhm := hm.size
          refine at_anyH (fun v => GB (fun _ => False) V4 v ∧ BK v (wa4.heap.size) [.int .i64 0, .int .i64 0] ∧ Mid wa3.heap.size wa4 v) ⟨hHeld, BK.new _ _ _, hm.al _⟩ (fun wa14 hS => ?_)
          clear hHeld hm
          obtain ⟨hHeld, BY, hm⟩ := hS
          refine wpAnyH_ready (rs := [8]) (by kernel_rfl) (by simp) (AllReadyH.cons (o := _) rfl (fun K hK => ?_) AllReadyH.nil)
          go_simp
          refine hK.out _ _ (hHeld.al _) (fun hNew => ?_)
          have hX : V4.heap.size ≤ wa14.heap.size := hHeld.size
          have dYX := BY.lt
          clear hHeld hK K
          have hHeld := hNew
          clear hNew
          try simp only [Act.put, PL]
          have gXhm := hm.size
          refine at_anyH (fun v => GB (fun _ => False) V4 v ∧ BK v (wa4.heap.size) [.int .i64 0, .int .i64 0] ∧ BK v (wa14.heap.size) [.slice none 0 0, .slice none 0 0] ∧ Mid wa3.heap.size wa4 v) ⟨hHeld, BY.al _, BK.new _ _ _, hm.al _⟩ (fun wa15 hS => ?_)
          clear hHeld BY hm
          obtain ⟨hHeld, BY, BX, hm⟩ := hS
          refine wpAnyH_ready (rs := [10]) (by kernel_rfl) (by simp) (AllReadyH.cons (o := _) rfl (fun K hK => ?_) AllReadyH.nil)
          have n0 := BX.c 0 rfl
          have f0 := BX.f 0 rfl
          have n1 := BX.c 1 rfl
          have f1 := BX.f 1 rfl
          go_simp
          clear n0 f0 n1 f1
          refine hK.out _ _ ((hHeld.set (.inr hX) _).set (.inr hX) _) (fun hNew => ?_)
          clear hHeld hK K
          have hHeld := hNew
          clear hNew
          try simp only [Act.put, PL]
          refine at_anyH (fun v => GB (fun _ => False) V4 v ∧ BK v (wa4.heap.size) [.int .i64 0, .int .i64 0] ∧ BK v (wa14.heap.size) [.slice A2 2 ca2, .slice Q2 1 cq2] ∧ Mid wa3.heap.size wa4 v) ⟨hHeld, ((BY.far (by omega) _ _).far (by omega) _ _), ((BX.set 0 _).set 1 _), ((hm.set (by omega) _).set (by omega) _)⟩ (fun wa16 hS => ?_)
          clear hHeld BY BX hm
          obtain ⟨hHeld, BY, BX, hm⟩ := hS
          refine wpAnyH_ready (rs := [11]) (by kernel_rfl) (by simp) (AllReadyH.cons (o := _) rfl (fun K hK => ?_) AllReadyH.nil)
          have n0 := BY.c 0 rfl
          have f0 := BY.f 0 rfl
          have n1 := BY.c 1 rfl
          have f1 := BY.f 1 rfl
          go_simp
          clear n0 f0 n1 f1
          refine hK.out _ _ ((hHeld.set (.inr hY) _).set (.inr hY) _) (fun hNew => ?_)
          clear hHeld hK K
          have hHeld := hNew
          clear hNew
          try simp only [Act.put, PL]
          refine at_anyH (fun v => GB (fun _ => False) V4 v ∧ BK v (wa4.heap.size) [.int .i64 1, .int .i64 1] ∧ BK v (wa14.heap.size) [.slice A2 2 ca2, .slice Q2 1 cq2] ∧ Mid wa3.heap.size wa4 v) ⟨hHeld, ((BY.set 0 _).set 1 _), ((BX.far (by omega) _ _).far (by omega) _ _), ((hm.set (by omega) _).set (by omega) _)⟩ (fun wa17 hS => ?_)
          clear hHeld BY BX hm
          obtain ⟨hHeld, BY, BX, hm⟩ := hS
          refine wpAnyH_take (i := 12) (oi := _) (v := ?va18) rfl (by kernel_rfl) (by kernel_rfl) (by kernel_rfl) (fun _ _ _ h => h) (Or.inl ⟨by kernel_rfl, ?hya18⟩) hHeld ?resta18
          case hya18 => (intro w hSw; go_simp; first | done | (with_reducible rfl))
          try simp only [Act.put, PL]
          refine wpAnyH_done (by kernel_rfl) ?_ _
          go_wp2_with fail
          go_meet
          exact ⟨_, _, A2, ca2, l2, Q2, cq2, rfl, rfl, rfl, hl2, hd2, (hfd2.mid hm).isCs, (hfd2.mid hm).isQs, BX, BY, hHeld.toBelow hbb (fun k hk => hk.elim) hBV⟩
        · as_aux_lemma =>
         go_simp
         refine hK.out _ _ (hHeld.al _) (fun hNew => ?_)
         have hX : V4.heap.size ≤ wa3.heap.size := hHeld.size
         clear hHeld hK K
         have hHeld := hNew
         clear hNew
         try simp only [Act.put, PL]
         refine at_anyH (fun v => GB (fun _ => False) V4 v ∧ BK v (wa3.heap.size) [.slice none 0 0, .slice none 0 0]) ⟨hHeld, BK.new _ _ _⟩ (fun wa19 hS => ?_)
         clear hHeld
         obtain ⟨hHeld, BX⟩ := hS
         refine wpAnyH_ready (rs := [3, 9]) (by kernel_rfl) (by simp) (AllReadyH.cons (o := _) rfl (fun K hK => ?_) (AllReadyH.cons (o := _) rfl (fun K hK => ?_) AllReadyH.nil))
         · as_aux_lemma =>
          go_simp
          refine (MK.out _ (hHeld.toBelow (Below.refl _ _) (fun k hk => hk.elim) (Nat.le_refl _))).mono ?_
          rintro e wa20 ⟨hb3, A2, ca2, l2, Q2, cq2, rfl, hl2, hd2, hfd2⟩
          have hm := Mid.refl wa19.heap.size wa20
          go_wp2_with fail
          refine hK.out _ _ (hHeld.below hb3) (fun hNew => ?_)
          have cX := BX.lt
          replace BX := BX.keep hb3
          clear hb3
          clear hHeld hK K
          have hHeld := hNew
          clear hNew
          try simp only [Act.put, PL]
          refine wpAnyH_take (i := 4) (oi := _) (v := ?va21) rfl (by kernel_rfl) (by kernel_rfl) (by kernel_rfl) (fun _ _ _ h => h) (Or.inl ⟨by kernel_rfl, ?hya21⟩) hHeld ?resta21
          case hya21 => (intro w hSw; go_simp; first | done | (with_reducible rfl))
          try simp only [Act.put, PL]
          refine wpAnyH_take (i := 5) (oi := _) (v := ?va22) rfl (by kernel_rfl) (by kernel_rfl) (by kernel_rfl) (fun _ _ _ h => h) (Or.inl ⟨by kernel_rfl, ?hya22⟩) hHeld ?resta22
          case hya22 => (intro w hSw; go_simp; first | done | (with_reducible rfl))
          try simp only [Act.put, PL]
          refine wpAnyH_take (i := 6) (oi := _) (v := ?va23) rfl (by kernel_rfl) (by kernel_rfl) (by kernel_rfl) (fun _ _ _ h => h) (Or.inl ⟨by kernel_rfl, ?hya23⟩) hHeld ?resta23
          case hya23 => (intro w hSw; go_simp; first | done | (with_reducible rfl))
          try simp only [Act.put, PL]
          refine wpAnyH_take (i := 7) (oi := _) (v := ?va24) rfl (by kernel_rfl) (by kernel_rfl) (by kernel_rfl) (fun _ _ _ h => h) (Or.inl ⟨by kernel_rfl, ?hya24⟩) hHeld ?resta24
          case hya24 => (intro w hSw; go_simp; first | done | (with_reducible rfl))
          try simp only [Act.put, PL]
          refine wpAnyH_ready (rs := [9]) (by kernel_rfl) (by simp) (AllReadyH.cons (o := _) rfl (fun K hK => ?_) AllReadyH.nil)
          go_simp
          refine hK.out _ _ (hHeld.al _) (fun hNew => ?_)
          have hY : V4.heap.size ≤ wa20.heap.size := hHeld.size
          have dXY := BX.lt
          clear hHeld hK K
          have hHeld := hNew
          clear hNew
          try simp only [Act.put, PL]
          have gYhm := hm.size
          refine at_anyH (fun v => GB (fun _ => False) V4 v ∧ BK v (wa3.heap.size) [.slice none 0 0, .slice none 0 0] ∧ BK v (wa20.heap.size) [.int .i64 0, .int .i64 0] ∧ Mid wa19.heap.size wa20 v) ⟨hHeld, BX.al _, BK.new _ _ _, hm.al _⟩ (fun wa25 hS => ?_)
          clear hHeld BX hm
          obtain ⟨hHeld, BX, BY, hm⟩ := hS
          refine wpAnyH_ready (rs := [10]) (by kernel_rfl) (by simp) (AllReadyH.cons (o := _) rfl (fun K hK => ?_) AllReadyH.nil)
          have n0 := BX.c 0 rfl
          have f0 := BX.f 0 rfl
          have n1 := BX.c 1 rfl
          have f1 := BX.f 1 rfl
          go_simp
          clear n0 f0 n1 f1
          refine hK.out _ _ ((hHeld.set (.inr hX) _).set (.inr hX) _) (fun hNew => ?_)
          clear hHeld hK K
          have hHeld := hNew
          clear hNew
          try simp only [Act.put, PL]
          refine at_anyH (fun v => GB (fun _ => False) V4 v ∧ BK v (wa3.heap.size) [.slice A2 2 ca2, .slice Q2 1 cq2] ∧ BK v (wa20.heap.size) [.int .i64 0, .int .i64 0] ∧ Mid wa19.heap.size wa20 v) ⟨hHeld, ((BX.set 0 _).set 1 _), ((BY.far (by omega) _ _).far (by omega) _ _), ((hm.set (by omega) _).set (by omega) _)⟩ (fun wa26 hS => ?_)
          clear hHeld BX BY hm
          obtain ⟨hHeld, BX, BY, hm⟩ := hS
          refine wpAnyH_ready (rs := [11]) (by kernel_rfl) (by simp) (AllReadyH.cons (o := _) rfl (fun K hK => ?_) AllReadyH.nil)
          have n0 := BY.c 0 rfl
          have f0 := BY.f 0 rfl
          have n1 := BY.c 1 rfl
          have f1 := BY.f 1 rfl
          go_simp
          clear n0 f0 n1 f1
          refine hK.out _ _ ((hHeld.set (.inr hY) _).set (.inr hY) _) (fun hNew => ?_)
          clear hHeld hK K
          have hHeld := hNew
          clear hNew
          try simp only [Act.put, PL]
          refine at_anyH (fun v => GB (fun _ => False) V4 v ∧ BK v (wa3.heap.size) [.slice A2 2 ca2, .slice Q2 1 cq2] ∧ BK v (wa20.heap.size) [.int .i64 1, .int .i64 1] ∧ Mid wa19.heap.size wa20 v) ⟨hHeld, ((BX.far (by omega) _ _).far (by omega) _ _), ((BY.set 0 _).set 1 _), ((hm.set (by omega) _).set (by omega) _)⟩ (fun wa27 hS => ?_)
          clear hHeld BX BY hm
          obtain ⟨hHeld, BX, BY, hm⟩ := hS
          refine wpAnyH_take (i := 12) (oi := _) (v := ?va28) rfl (by kernel_rfl) (by kernel_rfl) (by kernel_rfl) (fun _ _ _ h => h) (Or.inl ⟨by kernel_rfl, ?hya28⟩) hHeld ?resta28
          case hya28 => (intro w hSw; go_simp; first | done | (with_reducible rfl))
          try simp only [Act.put, PL]
          refine wpAnyH_done (by kernel_rfl) ?_ _
          go_wp2_with fail
          go_meet
          exact ⟨_, _, A2, ca2, l2, Q2, cq2, rfl, rfl, rfl, hl2, hd2, (hfd2.mid hm).isCs, (hfd2.mid hm).isQs, BX, BY, hHeld.toBelow hbb (fun k hk => hk.elim) hBV⟩
         · as_aux_lemma =>
          go_simp
          refine hK.out _ _ (hHeld.al _) (fun hNew => ?_)
          have hY : V4.heap.size ≤ wa19.heap.size := hHeld.size
          have dXY := BX.lt
          clear hHeld hK K
          have hHeld := hNew
          clear hNew
          try simp only [Act.put, PL]
          refine at_anyH (fun v => GB (fun _ => False) V4 v ∧ BK v (wa3.heap.size) [.slice none 0 0, .slice none 0 0] ∧ BK v (wa19.heap.size) [.int .i64 0, .int .i64 0]) ⟨hHeld, BX.al _, BK.new _ _ _⟩ (fun wa29 hS => ?_)
          clear hHeld BX
          obtain ⟨hHeld, BX, BY⟩ := hS
          refine wpAnyH_ready (rs := [3]) (by kernel_rfl) (by simp) (AllReadyH.cons (o := _) rfl (fun K hK => ?_) AllReadyH.nil)
          go_simp
          refine (MK.out _ (hHeld.toBelow (Below.refl _ _) (fun k hk => hk.elim) (Nat.le_refl _))).mono ?_
          rintro e wa30 ⟨hb3, A2, ca2, l2, Q2, cq2, rfl, hl2, hd2, hfd2⟩
          have hm := Mid.refl wa29.heap.size wa30
          go_wp2_with fail
          refine hK.out _ _ (hHeld.below hb3) (fun hNew => ?_)
          have cX := BX.lt
          replace BX := BX.keep hb3
          have cY := BY.lt
          replace BY := BY.keep hb3
          clear hb3
          clear hHeld hK K
          have hHeld := hNew
          clear hNew
          try simp only [Act.put, PL]
          refine wpAnyH_take (i := 4) (oi := _) (v := ?va31) rfl (by kernel_rfl) (by kernel_rfl) (by kernel_rfl) (fun _ _ _ h => h) (Or.inl ⟨by kernel_rfl, ?hya31⟩) hHeld ?resta31
          case hya31 => (intro w hSw; go_simp; first | done | (with_reducible rfl))
          try simp only [Act.put, PL]
          refine wpAnyH_take (i := 5) (oi := _) (v := ?va32) rfl (by kernel_rfl) (by kernel_rfl) (by kernel_rfl) (fun _ _ _ h => h) (Or.inl ⟨by kernel_rfl, ?hya32⟩) hHeld ?resta32
          case hya32 => (intro w hSw; go_simp; first | done | (with_reducible rfl))
          try simp only [Act.put, PL]
          refine wpAnyH_take (i := 6) (oi := _) (v := ?va33) rfl (by kernel_rfl) (by kernel_rfl) (by kernel_rfl) (fun _ _ _ h => h) (Or.inl ⟨by kernel_rfl, ?hya33⟩) hHeld ?resta33
          case hya33 => (intro w hSw; go_simp; first | done | (with_reducible rfl))
          try simp only [Act.put, PL]
          refine wpAnyH_take (i := 7) (oi := _) (v := ?va34) rfl (by kernel_rfl) (by kernel_rfl) (by kernel_rfl) (fun _ _ _ h => h) (Or.inl ⟨by kernel_rfl, ?hya34⟩) hHeld ?resta34
          case hya34 => (intro w hSw; go_simp; first | done | (with_reducible rfl))
          try simp only [Act.put, PL]
          refine wpAnyH_ready (rs := [10]) (by kernel_rfl) (by simp) (AllReadyH.cons (o := _) rfl (fun K hK => ?_) AllReadyH.nil)
          have n0 := BX.c 0 rfl
          have f0 := BX.f 0 rfl
          have n1 := BX.c 1 rfl
          have f1 := BX.f 1 rfl
          go_simp
          clear n0 f0 n1 f1
          refine hK.out _ _ ((hHeld.set (.inr hX) _).set (.inr hX) _) (fun hNew => ?_)
          clear hHeld hK K
          have hHeld := hNew
          clear hNew
          try simp only [Act.put, PL]
          refine at_anyH (fun v => GB (fun _ => False) V4 v ∧ BK v (wa3.heap.size) [.slice A2 2 ca2, .slice Q2 1 cq2] ∧ BK v (wa19.heap.size) [.int .i64 0, .int .i64 0] ∧ Mid wa29.heap.size wa30 v) ⟨hHeld, ((BX.set 0 _).set 1 _), ((BY.far (by omega) _ _).far (by omega) _ _), ((hm.set (by omega) _).set (by omega) _)⟩ (fun wa35 hS => ?_)
          clear hHeld BX BY hm
          obtain ⟨hHeld, BX, BY, hm⟩ := hS
          refine wpAnyH_ready (rs := [11]) (by kernel_rfl) (by simp) (AllReadyH.cons (o := _) rfl (fun K hK => ?_) AllReadyH.nil)
          have n0 := BY.c 0 rfl
          have f0 := BY.f 0 rfl
          have n1 := BY.c 1 rfl
          have f1 := BY.f 1 rfl
          go_simp
          clear n0 f0 n1 f1
          refine hK.out _ _ ((hHeld.set (.inr hY) _).set (.inr hY) _) (fun hNew => ?_)
          clear hHeld hK K
          have hHeld := hNew
          clear hNew
          try simp only [Act.put, PL]
          refine at_anyH (fun v => GB (fun _ => False) V4 v ∧ BK v (wa3.heap.size) [.slice A2 2 ca2, .slice Q2 1 cq2] ∧ BK v (wa19.heap.size) [.int .i64 1, .int .i64 1] ∧ Mid wa29.heap.size wa30 v) ⟨hHeld, ((BX.far (by omega) _ _).far (by omega) _ _), ((BY.set 0 _).set 1 _), ((hm.set (by omega) _).set (by omega) _)⟩ (fun wa36 hS => ?_)
          clear hHeld BX BY hm
          obtain ⟨hHeld, BX, BY, hm⟩ := hS
          refine wpAnyH_take (i := 12) (oi := _) (v := ?va37) rfl (by kernel_rfl) (by kernel_rfl) (by kernel_rfl) (fun _ _ _ h => h) (Or.inl ⟨by kernel_rfl, ?hya37⟩) hHeld ?resta37
          case hya37 => (intro w hSw; go_simp; first | done | (with_reducible rfl))
          try simp only [Act.put, PL]
          refine wpAnyH_done (by kernel_rfl) ?_ _
          go_wp2_with fail
          go_meet
          exact ⟨_, _, A2, ca2, l2, Q2, cq2, rfl, rfl, rfl, hl2, hd2, (hfd2.mid hm).isCs, (hfd2.mid hm).isQs, BX, BY, hHeld.toBelow hbb (fun k hk => hk.elim) hBV⟩
        · as_aux_lemma =>
         go_simp
         refine hK.out _ _ (hHeld.al _) (fun hNew => ?_)
         have hY : V4.heap.size ≤ wa3.heap.size := hHeld.size
         clear hHeld hK K
         have hHeld := hNew
         clear hNew
         try simp only [Act.put, PL]
         refine at_anyH (fun v => GB (fun _ => False) V4 v ∧ BK v (wa3.heap.size) [.int .i64 0, .int .i64 0]) ⟨hHeld, BK.new _ _ _⟩ (fun wa38 hS => ?_)
         clear hHeld
         obtain ⟨hHeld, BY⟩ := hS
         refine wpAnyH_ready (rs := [3, 8]) (by kernel_rfl) (by simp) (AllReadyH.cons (o := _) rfl (fun K hK => ?_) (AllReadyH.cons (o := _) rfl (fun K hK => ?_) AllReadyH.nil))
         · as_aux_lemma =>
          go_simp
          refine (MK.out _ (hHeld.toBelow (Below.refl _ _) (fun k hk => hk.elim) (Nat.le_refl _))).mono ?_
          rintro e wa39 ⟨hb3, A2, ca2, l2, Q2, cq2, rfl, hl2, hd2, hfd2⟩
          have hm := Mid.refl wa38.heap.size wa39
          go_wp2_with fail
          refine hK.out _ _ (hHeld.below hb3) (fun hNew => ?_)
          have cY := BY.lt
          replace BY := BY.keep hb3
          clear hb3
          clear hHeld hK K
          have hHeld := hNew
          clear hNew
          try simp only [Act.put, PL]
          refine wpAnyH_take (i := 4) (oi := _) (v := ?va40) rfl (by kernel_rfl) (by kernel_rfl) (by kernel_rfl) (fun _ _ _ h => h) (Or.inl ⟨by kernel_rfl, ?hya40⟩) hHeld ?resta40
          case hya40 => (intro w hSw; go_simp; first | done | (with_reducible rfl))
          try simp only [Act.put, PL]
          refine wpAnyH_take (i := 5) (oi := _) (v := ?va41) rfl (by kernel_rfl) (by kernel_rfl) (by kernel_rfl) (fun _ _ _ h => h) (Or.inl ⟨by kernel_rfl, ?hya41⟩) hHeld ?resta41
          case hya41 => (intro w hSw; go_simp; first | done | (with_reducible rfl))
          try simp only [Act.put, PL]
          refine wpAnyH_take (i := 6) (oi := _) (v := ?va42) rfl (by kernel_rfl) (by kernel_rfl) (by kernel_rfl) (fun _ _ _ h => h) (Or.inl ⟨by kernel_rfl, ?hya42⟩) hHeld ?resta42
          case hya42 => (intro w hSw; go_simp; first | done | (with_reducible rfl))
          try simp only [Act.put, PL]
          refine wpAnyH_take (i := 7) (oi := _) (v := ?va43) rfl (by kernel_rfl) (by kernel_rfl) (by kernel_rfl) (fun _ _ _ h => h) (Or.inl ⟨by kernel_rfl, ?hya43⟩) hHeld ?resta43
          case hya43 => (intro w hSw; go_simp; first | done | (with_reducible rfl))
          try simp only [Act.put, PL]
          refine wpAnyH_ready (rs := [8]) (by kernel_rfl) (by simp) (AllReadyH.cons (o := _) rfl (fun K hK => ?_) AllReadyH.nil)
          go_simp
          refine hK.out _ _ (hHeld.al _) (fun hNew => ?_)
          have hX : V4.heap.size ≤ wa39.heap.size := hHeld.size
          have dYX := BY.lt
          clear hHeld hK K
          have hHeld := hNew
          clear hNew
          try simp only [Act.put, PL]
          have gXhm := hm.size
          refine at_anyH (fun v => GB (fun _ => False) V4 v ∧ BK v (wa3.heap.size) [.int .i64 0, .int .i64 0] ∧ BK v (wa39.heap.size) [.slice none 0 0, .slice none 0 0] ∧ Mid wa38.heap.size wa39 v) ⟨hHeld, BY.al _, BK.new _ _ _, hm.al _⟩ (fun wa44 hS => ?_)
          clear hHeld BY hm
          obtain ⟨hHeld, BY, BX, hm⟩ := hS
          refine wpAnyH_ready (rs := [10]) (by kernel_rfl) (by simp) (AllReadyH.cons (o := _) rfl (fun K hK => ?_) AllReadyH.nil)
          have n0 := BX.c 0 rfl
          have f0 := BX.f 0 rfl
          have n1 := BX.c 1 rfl
          have f1 := BX.f 1 rfl
          go_simp
          clear n0 f0 n1 f1
          refine hK.out _ _ ((hHeld.set (.inr hX) _).set (.inr hX) _) (fun hNew => ?_)
          clear hHeld hK K
          have hHeld := hNew
          clear hNew
          try simp only [Act.put, PL]
          refine at_anyH (fun v => GB (fun _ => False) V4 v ∧ BK v (wa3.heap.size) [.int .i64 0, .int .i64 0] ∧ BK v (wa39.heap.size) [.slice A2 2 ca2, .slice Q2 1 cq2] ∧ Mid wa38.heap.size wa39 v) ⟨hHeld, ((BY.far (by omega) _ _).far (by omega) _ _), ((BX.set 0 _).set 1 _), ((hm.set (by omega) _).set (by omega) _)⟩ (fun wa45 hS => ?_)
          clear hHeld BY BX hm
          obtain ⟨hHeld, BY, BX, hm⟩ := hS
          refine wpAnyH_ready (rs := [11]) (by kernel_rfl) (by simp) (AllReadyH.cons (o := _) rfl (fun K hK => ?_) AllReadyH.nil)
          have n0 := BY.c 0 rfl
          have f0 := BY.f 0 rfl
          have n1 := BY.c 1 rfl
          have f1 := BY.f 1 rfl
          go_simp
          clear n0 f0 n1 f1
          refine hK.out _ _ ((hHeld.set (.inr hY) _).set (.inr hY) _) (fun hNew => ?_)
          clear hHeld hK K
          have hHeld := hNew
          clear hNew
          try simp only [Act.put, PL]
          refine at_anyH (fun v => GB (fun _ => False) V4 v ∧ BK v (wa3.heap.size) [.int .i64 1, .int .i64 1] ∧ BK v (wa39.heap.size) [.slice A2 2 ca2, .slice Q2 1 cq2] ∧ Mid wa38.heap.size wa39 v) ⟨hHeld, ((BY.set 0 _).set 1 _), ((BX.far (by omega) _ _).far (by omega) _ _), ((hm.set (by omega) _).set (by omega) _)⟩ (fun wa46 hS => ?_)
          clear hHeld BY BX hm
          obtain ⟨hHeld, BY, BX, hm⟩ := hS
          refine wpAnyH_take (i := 12) (oi := _) (v := ?va47) rfl (by kernel_rfl) (by kernel_rfl) (by kernel_rfl) (fun _ _ _ h => h) (Or.inl ⟨by kernel_rfl, ?hya47⟩) hHeld ?resta47
          case hya47 => (intro w hSw; go_simp; first | done | (with_reducible rfl))
          try simp only [Act.put, PL]
          refine wpAnyH_done (by kernel_rfl) ?_ _
          go_wp2_with fail
          go_meet
          exact ⟨_, _, A2, ca2, l2, Q2, cq2, rfl, rfl, rfl, hl2, hd2, (hfd2.mid hm).isCs, (hfd2.mid hm).isQs, BX, BY, hHeld.toBelow hbb (fun k hk => hk.elim) hBV⟩
         · as_aux_lemma =>
          go_simp
          refine hK.out _ _ (hHeld.al _) (fun hNew => ?_)
          have hX : V4.heap.size ≤ wa38.heap.size := hHeld.size
          have dYX := BY.lt
          clear hHeld hK K
          have hHeld := hNew
          clear hNew
          try simp only [Act.put, PL]
          refine at_anyH (fun v => GB (fun _ => False) V4 v ∧ BK v (wa3.heap.size) [.int .i64 0, .int .i64 0] ∧ BK v (wa38.heap.size) [.slice none 0 0, .slice none 0 0]) ⟨hHeld, BY.al _, BK.new _ _ _⟩ (fun wa48 hS => ?_)
          clear hHeld BY
          obtain ⟨hHeld, BY, BX⟩ := hS
          refine wpAnyH_ready (rs := [3]) (by kernel_rfl) (by simp) (AllReadyH.cons (o := _) rfl (fun K hK => ?_) AllReadyH.nil)
          go_simp
          refine (MK.out _ (hHeld.toBelow (Below.refl _ _) (fun k hk => hk.elim) (Nat.le_refl _))).mono ?_
          rintro e wa49 ⟨hb3, A2, ca2, l2, Q2, cq2, rfl, hl2, hd2, hfd2⟩
          have hm := Mid.refl wa48.heap.size wa49
          go_wp2_with fail
          refine hK.out _ _ (hHeld.below hb3) (fun hNew => ?_)
          have cY := BY.lt
          replace BY := BY.keep hb3
          have cX := BX.lt
          replace BX := BX.keep hb3
          clear hb3
          clear hHeld hK K
          have hHeld := hNew
          clear hNew
          try simp only [Act.put, PL]
          refine wpAnyH_take (i := 4) (oi := _) (v := ?va50) rfl (by kernel_rfl) (by kernel_rfl) (by kernel_rfl) (fun _ _ _ h => h) (Or.inl ⟨by kernel_rfl, ?hya50⟩) hHeld ?resta50
          case hya50 => (intro w hSw; go_simp; first | done | (with_reducible rfl))
          try simp only [Act.put, PL]
          refine wpAnyH_take (i := 5) (oi := _) (v := ?va51) rfl (by kernel_rfl) (by kernel_rfl) (by kernel_rfl) (fun _ _ _ h => h) (Or.inl ⟨by kernel_rfl, ?hya51⟩) hHeld ?resta51
          case hya51 => (intro w hSw; go_simp; first | done | (with_reducible rfl))
          try simp only [Act.put, PL]
          refine wpAnyH_take (i := 6) (oi := _) (v := ?va52) rfl (by kernel_rfl) (by kernel_rfl) (by kernel_rfl) (fun _ _ _ h => h) (Or.inl ⟨by kernel_rfl, ?hya52⟩) hHeld ?resta52
          case hya52 => (intro w hSw; go_simp; first | done | (with_reducible rfl))
          try simp only [Act.put, PL]
          refine wpAnyH_take (i := 7) (oi := _) (v := ?va53) rfl (by kernel_rfl) (by kernel_rfl) (by kernel_rfl) (fun _ _ _ h => h) (Or.inl ⟨by kernel_rfl, ?hya53⟩) hHeld ?resta53
          case hya53 => (intro w hSw; go_simp; first | done | (with_reducible rfl))
          try simp only [Act.put, PL]
          refine wpAnyH_ready (rs := [10]) (by kernel_rfl) (by simp) (AllReadyH.cons (o := _) rfl (fun K hK => ?_) AllReadyH.nil)
          have n0 := BX.c 0 rfl
          have f0 := BX.f 0 rfl
          have n1 := BX.c 1 rfl
          have f1 := BX.f 1 rfl
          go_simp
          clear n0 f0 n1 f1
          refine hK.out _ _ ((hHeld.set (.inr hX) _).set (.inr hX) _) (fun hNew => ?_)
          clear hHeld hK K
          have hHeld := hNew
          clear hNew
          try simp only [Act.put, PL]
          refine at_anyH (fun v => GB (fun _ => False) V4 v ∧ BK v (wa3.heap.size) [.int .i64 0, .int .i64 0] ∧ BK v (wa38.heap.size) [.slice A2 2 ca2, .slice Q2 1 cq2] ∧ Mid wa48.heap.size wa49 v) ⟨hHeld, ((BY.far (by omega) _ _).far (by omega) _ _), ((BX.set 0 _).set 1 _), ((hm.set (by omega) _).set (by omega) _)⟩ (fun wa54 hS => ?_)
          clear hHeld BY BX hm
          obtain ⟨hHeld, BY, BX, hm⟩ := hS
          refine wpAnyH_ready (rs := [11]) (by kernel_rfl) (by simp) (AllReadyH.cons (o := _) rfl (fun K hK => ?_) AllReadyH.nil)
          have n0 := BY.c 0 rfl
          have f0 := BY.f 0 rfl
          have n1 := BY.c 1 rfl
          have f1 := BY.f 1 rfl
          go_simp
          clear n0 f0 n1 f1
          refine hK.out _ _ ((hHeld.set (.inr hY) _).set (.inr hY) _) (fun hNew => ?_)
          clear hHeld hK K
          have hHeld := hNew
          clear hNew
          try simp only [Act.put, PL]
          refine at_anyH (fun v => GB (fun _ => False) V4 v ∧ BK v (wa3.heap.size) [.int .i64 1, .int .i64 1] ∧ BK v (wa38.heap.size) [.slice A2 2 ca2, .slice Q2 1 cq2] ∧ Mid wa48.heap.size wa49 v) ⟨hHeld, ((BY.set 0 _).set 1 _), ((BX.far (by omega) _ _).far (by omega) _ _), ((hm.set (by omega) _).set (by omega) _)⟩ (fun wa55 hS => ?_)
          clear hHeld BY BX hm
          obtain ⟨hHeld, BY, BX, hm⟩ := hS
          refine wpAnyH_take (i := 12) (oi := _) (v := ?va56) rfl (by kernel_rfl) (by kernel_rfl) (by kernel_rfl) (fun _ _ _ h => h) (Or.inl ⟨by kernel_rfl, ?hya56⟩) hHeld ?resta56
          case hya56 => (intro w hSw; go_simp; first | done | (with_reducible rfl))
          try simp only [Act.put, PL]
          refine wpAnyH_done (by kernel_rfl) ?_ _
          go_wp2_with fail
          go_meet
          exact ⟨_, _, A2, ca2, l2, Q2, cq2, rfl, rfl, rfl, hl2, hd2, (hfd2.mid hm).isCs, (hfd2.mid hm).isQs, BX, BY, hHeld.toBelow hbb (fun k hk => hk.elim) hBV⟩
       · as_aux_lemma =>
        go_simp
        refine hK.out _ _ (hHeld.al _) (fun hNew => ?_)
        have hX : V4.heap.size ≤ wa2.heap.size := hHeld.size
        clear hHeld hK K
        have hHeld := hNew
        clear hNew
        try simp only [Act.put, PL]
        refine at_anyH (fun v => GB (fun _ => False) V4 v ∧ BK v (wa2.heap.size) [.slice none 0 0, .slice none 0 0]) ⟨hHeld, BK.new _ _ _⟩ (fun wa57 hS => ?_)
        clear hHeld
        obtain ⟨hHeld, BX⟩ := hS
        refine wpAnyH_ready (rs := [2, 9]) (by kernel_rfl) (by simp) (AllReadyH.cons (o := _) rfl (fun K hK => ?_) (AllReadyH.cons (o := _) rfl (fun K hK => ?_) AllReadyH.nil))
        · as_aux_lemma =>
         go_simp
         refine (of4_any 1 _).mono ?_
         rintro e wa58 ⟨rfl, hb3⟩
         go_wp2_with fail
         refine hK.out _ _ (hHeld.below hb3) (fun hNew => ?_)
         replace BX := BX.keep hb3
         clear hb3
         clear hHeld hK K
         have hHeld := hNew
         clear hNew
         try simp only [Act.put, PL]
         refine wpAnyH_ready (rs := [3, 9]) (by kernel_rfl) (by simp) (AllReadyH.cons (o := _) rfl (fun K hK => ?_) (AllReadyH.cons (o := _) rfl (fun K hK => ?_) AllReadyH.nil))
         · as_aux_lemma =>
          go_simp
          refine (MK.out _ (hHeld.toBelow (Below.refl _ _) (fun k hk => hk.elim) (Nat.le_refl _))).mono ?_
          rintro e wa59 ⟨hb3, A2, ca2, l2, Q2, cq2, rfl, hl2, hd2, hfd2⟩
          have hm := Mid.refl wa58.heap.size wa59
          go_wp2_with fail
          refine hK.out _ _ (hHeld.below hb3) (fun hNew => ?_)
          have cX := BX.lt
          replace BX := BX.keep hb3
          clear hb3
          clear hHeld hK K
          have hHeld := hNew
          clear hNew
          try simp only [Act.put, PL]
          refine wpAnyH_take (i := 4) (oi := _) (v := ?va60) rfl (by kernel_rfl) (by kernel_rfl) (by kernel_rfl) (fun _ _ _ h => h) (Or.inl ⟨by kernel_rfl, ?hya60⟩) hHeld ?resta60
          case hya60 => (intro w hSw; go_simp; first | done | (with_reducible rfl))
          try simp only [Act.put, PL]
          refine wpAnyH_take (i := 5) (oi := _) (v := ?va61) rfl (by kernel_rfl) (by kernel_rfl) (by kernel_rfl) (fun _ _ _ h => h) (Or.inl ⟨by kernel_rfl, ?hya61⟩) hHeld ?resta61
          case hya61 => (intro w hSw; go_simp; first | done | (with_reducible rfl))
          try simp only [Act.put, PL]
          refine wpAnyH_take (i := 6) (oi := _) (v := ?va62) rfl (by kernel_rfl) (by kernel_rfl) (by kernel_rfl) (fun _ _ _ h => h) (Or.inl ⟨by kernel_rfl, ?hya62⟩) hHeld ?resta62
          case hya62 => (intro w hSw; go_simp; first | done | (with_reducible rfl))
          try simp only [Act.put, PL]
          refine wpAnyH_take (i := 7) (oi := _) (v := ?va63) rfl (by kernel_rfl) (by kernel_rfl) (by kernel_rfl) (fun _ _ _ h => h) (Or.inl ⟨by kernel_rfl, ?hya63⟩) hHeld ?resta63
          case hya63 => (intro w hSw; go_simp; first | done | (with_reducible rfl))
          try simp only [Act.put, PL]
          refine wpAnyH_ready (rs := [9]) (by kernel_rfl) (by simp) (AllReadyH.cons (o := _) rfl (fun K hK => ?_) AllReadyH.nil)
          go_simp
          refine hK.out _ _ (hHeld.al _) (fun hNew => ?_)
          have hY : V4.heap.size ≤ wa59.heap.size := hHeld.size
          have dXY := BX.lt
          clear hHeld hK K
          have hHeld := hNew
          clear hNew
          try simp only [Act.put, PL]
          have gYhm := hm.size
          refine at_anyH (fun v => GB (fun _ => False) V4 v ∧ BK v (wa2.heap.size) [.slice none 0 0, .slice none 0 0] ∧ BK v (wa59.heap.size) [.int .i64 0, .int .i64 0] ∧ Mid wa58.heap.size wa59 v) ⟨hHeld, BX.al _, BK.new _ _ _, hm.al _⟩ (fun wa64 hS => ?_)
          clear hHeld BX hm
          obtain ⟨hHeld, BX, BY, hm⟩ := hS
          refine wpAnyH_ready (rs := [10]) (by kernel_rfl) (by simp) (AllReadyH.cons (o := _) rfl (fun K hK => ?_) AllReadyH.nil)
          have n0 := BX.c 0 rfl
          have f0 := BX.f 0 rfl
          have n1 := BX.c 1 rfl
          have f1 := BX.f 1 rfl
          go_simp
          clear n0 f0 n1 f1
          refine hK.out _ _ ((hHeld.set (.inr hX) _).set (.inr hX) _) (fun hNew => ?_)
          clear hHeld hK K
          have hHeld := hNew
          clear hNew
          try simp only [Act.put, PL]
          refine at_anyH (fun v => GB (fun _ => False) V4 v ∧ BK v (wa2.heap.size) [.slice A2 2 ca2, .slice Q2 1 cq2] ∧ BK v (wa59.heap.size) [.int .i64 0, .int .i64 0] ∧ Mid wa58.heap.size wa59 v) ⟨hHeld, ((BX.set 0 _).set 1 _), ((BY.far (by omega) _ _).far (by omega) _ _), ((hm.set (by omega) _).set (by omega) _)⟩ (fun wa65 hS => ?_)
          clear hHeld BX BY hm
          obtain ⟨hHeld, BX, BY, hm⟩ := hS
          refine wpAnyH_ready (rs := [11]) (by kernel_rfl) (by simp) (AllReadyH.cons (o := _) rfl (fun K hK => ?_) AllReadyH.nil)
          have n0 := BY.c 0 rfl
          have f0 := BY.f 0 rfl
          have n1 := BY.c 1 rfl
          have f1 := BY.f 1 rfl
          go_simp
          clear n0 f0 n1 f1
          refine hK.out _ _ ((hHeld.set (.inr hY) _).set (.inr hY) _) (fun hNew => ?_)
          clear hHeld hK K
          have hHeld := hNew
          clear hNew
          try simp only [Act.put, PL]
          refine at_anyH (fun v => GB (fun _ => False) V4 v ∧ BK v (wa2.heap.size) [.slice A2 2 ca2, .slice Q2 1 cq2] ∧ BK v (wa59.heap.size) [.int .i64 1, .int .i64 1] ∧ Mid wa58.heap.size wa59 v) ⟨hHeld, ((BX.far (by omega) _ _).far (by omega) _ _), ((BY.set 0 _).set 1 _), ((hm.set (by omega) _).set (by omega) _)⟩ (fun wa66 hS => ?_)
          clear hHeld BX BY hm
          obtain ⟨hHeld, BX, BY, hm⟩ := hS
          refine wpAnyH_take (i := 12) (oi := _) (v := ?va67) rfl (by kernel_rfl) (by kernel_rfl) (by kernel_rfl) (fun _ _ _ h => h) (Or.inl ⟨by kernel_rfl, ?hya67⟩) hHeld ?resta67
          case hya67 => (intro w hSw; go_simp; first | done | (with_reducible rfl))
          try simp only [Act.put, PL]
          refine wpAnyH_done (by kernel_rfl) ?_ _
          go_wp2_with fail
          go_meet
          exact ⟨_, _, A2, ca2, l2, Q2, cq2, rfl, rfl, rfl, hl2, hd2, (hfd2.mid hm).isCs, (hfd2.mid hm).isQs, BX, BY, hHeld.toBelow hbb (fun k hk => hk.elim) hBV⟩
         · as_aux_lemma =>
          go_simp
          refine hK.out _ _ (hHeld.al _) (fun hNew => ?_)
          have hY : V4.heap.size ≤ wa58.heap.size := hHeld.size
          have dXY := BX.lt
          clear hHeld hK K
          have hHeld := hNew
          clear hNew
          try simp only [Act.put, PL]
          refine at_anyH (fun v => GB (fun _ => False) V4 v ∧ BK v (wa2.heap.size) [.slice none 0 0, .slice none 0 0] ∧ BK v (wa58.heap.size) [.int .i64 0, .int .i64 0]) ⟨hHeld, BX.al _, BK.new _ _ _⟩ (fun wa68 hS => ?_)
          clear hHeld BX
          obtain ⟨hHeld, BX, BY⟩ := hS
          refine wpAnyH_ready (rs := [3]) (by kernel_rfl) (by simp) (AllReadyH.cons (o := _) rfl (fun K hK => ?_) AllReadyH.nil)
          go_simp
          refine (MK.out _ (hHeld.toBelow (Below.refl _ _) (fun k hk => hk.elim) (Nat.le_refl _))).mono ?_
          rintro e wa69 ⟨hb3, A2, ca2, l2, Q2, cq2, rfl, hl2, hd2, hfd2⟩
          have hm := Mid.refl wa68.heap.size wa69
          go_wp2_with fail
          refine hK.out _ _ (hHeld.below hb3) (fun hNew => ?_)
          have cX := BX.lt
          replace BX := BX.keep hb3
          have cY := BY.lt
          replace BY := BY.keep hb3
          clear hb3
          clear hHeld hK K
          have hHeld := hNew
          clear hNew
          try simp only [Act.put, PL]
          refine wpAnyH_take (i := 4) (oi := _) (v := ?va70) rfl (by kernel_rfl) (by kernel_rfl) (by kernel_rfl) (fun _ _ _ h => h) (Or.inl ⟨by kernel_rfl, ?hya70⟩) hHeld ?resta70
          case hya70 => (intro w hSw; go_simp; first | done | (with_reducible rfl))
          try simp only [Act.put, PL]
          refine wpAnyH_take (i := 5) (oi := _) (v := ?va71) rfl (by kernel_rfl) (by kernel_rfl) (by kernel_rfl) (fun _ _ _ h => h) (Or.inl ⟨by kernel_rfl, ?hya71⟩) hHeld ?resta71
          case hya71 => (intro w hSw; go_simp; first | done | (with_reducible rfl))
          try simp only [Act.put, PL]
          refine wpAnyH_take (i := 6) (oi := _) (v := ?va72) rfl (by kernel_rfl) (by kernel_rfl) (by kernel_rfl) (fun _ _ _ h => h) (Or.inl ⟨by kernel_rfl, ?hya72⟩) hHeld ?resta72
          case hya72 => (intro w hSw; go_simp; first | done | (with_reducible rfl))
          try simp only [Act.put, PL]
          refine wpAnyH_take (i := 7) (oi := _) (v := ?va73) rfl (by kernel_rfl) (by kernel_rfl) (by kernel_rfl) (fun _ _ _ h => h) (Or.inl ⟨by kernel_rfl, ?hya73⟩) hHeld ?resta73
          case hya73 => (intro w hSw; go_simp; first | done | (with_reducible rfl))
          try simp only [Act.put, PL]
          refine wpAnyH_ready (rs := [10]) (by kernel_rfl) (by simp) (AllReadyH.cons (o := _) rfl (fun K hK => ?_) AllReadyH.nil)
          have n0 := BX.c 0 rfl
          have f0 := BX.f 0 rfl
          have n1 := BX.c 1 rfl
          have f1 := BX.f 1 rfl
          go_simp
          clear n0 f0 n1 f1
          refine hK.out _ _ ((hHeld.set (.inr hX) _).set (.inr hX) _) (fun hNew => ?_)
          clear hHeld hK K
          have hHeld := hNew
          clear hNew
          try simp only [Act.put, PL]
          refine at_anyH (fun v => GB (fun _ => False) V4 v ∧ BK v (wa2.heap.size) [.slice A2 2 ca2, .slice Q2 1 cq2] ∧ BK v (wa58.heap.size) [.int .i64 0, .int .i64 0] ∧ Mid wa68.heap.size wa69 v) ⟨hHeld, ((BX.set 0 _).set 1 _), ((BY.far (by omega) _ _).far (by omega) _ _), ((hm.set (by omega) _).set (by omega) _)⟩ (fun wa74 hS => ?_)
          clear hHeld BX BY hm
          obtain ⟨hHeld, BX, BY, hm⟩ := hS
          refine wpAnyH_ready (rs := [11]) (by kernel_rfl) (by simp) (AllReadyH.cons (o := _) rfl (fun K hK => ?_) AllReadyH.nil)
          have n0 := BY.c 0 rfl
          have f0 := BY.f 0 rfl
          have n1 := BY.c 1 rfl
          have f1 := BY.f 1 rfl
          go_simp
          clear n0 f0 n1 f1
          refine hK.out _ _ ((hHeld.set (.inr hY) _).set (.inr hY) _) (fun hNew => ?_)
          clear hHeld hK K
          have hHeld := hNew
          clear hNew
          try simp only [Act.put, PL]
          refine at_anyH (fun v => GB (fun _ => False) V4 v ∧ BK v (wa2.heap.size) [.slice A2 2 ca2, .slice Q2 1 cq2] ∧ BK v (wa58.heap.size) [.int .i64 1, .int .i64 1] ∧ Mid wa68.heap.size wa69 v) ⟨hHeld, ((BX.far (by omega) _ _).far (by omega) _ _), ((BY.set 0 _).set 1 _), ((hm.set (by omega) _).set (by omega) _)⟩ (fun wa75 hS => ?_)
          clear hHeld BX BY hm
          obtain ⟨hHeld, BX, BY, hm⟩ := hS
          refine wpAnyH_take (i := 12) (oi := _) (v := ?va76) rfl (by kernel_rfl) (by kernel_rfl) (by kernel_rfl) (fun _ _ _ h => h) (Or.inl ⟨by kernel_rfl, ?hya76⟩) hHeld ?resta76
          case hya76 => (intro w hSw; go_simp; first | done | (with_reducible rfl))
          try simp only [Act.put, PL]
          refine wpAnyH_done (by kernel_rfl) ?_ _
          go_wp2_with fail
          go_meet
          exact ⟨_, _, A2, ca2, l2, Q2, cq2, rfl, rfl, rfl, hl2, hd2, (hfd2.mid hm).isCs, (hfd2.mid hm).isQs, BX, BY, hHeld.toBelow hbb (fun k hk => hk.elim) hBV⟩
        · as_aux_lemma =>
         go_simp
         refine hK.out _ _ (hHeld.al _) (fun hNew => ?_)
         have hY : V4.heap.size ≤ wa57.heap.size := hHeld.size
         have dXY := BX.lt
         clear hHeld hK K
         have hHeld := hNew
         clear hNew
         try simp only [Act.put, PL]
         refine at_anyH (fun v => GB (fun _ => False) V4 v ∧ BK v (wa2.heap.size) [.slice none 0 0, .slice none 0 0] ∧ BK v (wa57.heap.size) [.int .i64 0, .int .i64 0]) ⟨hHeld, BX.al _, BK.new _ _ _⟩ (fun wa77 hS => ?_)
         clear hHeld BX
         obtain ⟨hHeld, BX, BY⟩ := hS
         refine wpAnyH_ready (rs := [2]) (by kernel_rfl) (by simp) (AllReadyH.cons (o := _) rfl (fun K hK => ?_) AllReadyH.nil)
         go_simp
         refine (of4_any 1 _).mono ?_
         rintro e wa78 ⟨rfl, hb3⟩
         go_wp2_with fail
         refine hK.out _ _ (hHeld.below hb3) (fun hNew => ?_)
         replace BX := BX.keep hb3
         replace BY := BY.keep hb3
         clear hb3
         clear hHeld hK K
         have hHeld := hNew
         clear hNew
         try simp only [Act.put, PL]
         refine wpAnyH_ready (rs := [3]) (by kernel_rfl) (by simp) (AllReadyH.cons (o := _) rfl (fun K hK => ?_) AllReadyH.nil)
         go_simp
         refine (MK.out _ (hHeld.toBelow (Below.refl _ _) (fun k hk => hk.elim) (Nat.le_refl _))).mono ?_
         rintro e wa79 ⟨hb3, A2, ca2, l2, Q2, cq2, rfl, hl2, hd2, hfd2⟩
         have hm := Mid.refl wa78.heap.size wa79
         go_wp2_with fail
         refine hK.out _ _ (hHeld.below hb3) (fun hNew => ?_)
         have cX := BX.lt
         replace BX := BX.keep hb3
         have cY := BY.lt
         replace BY := BY.keep hb3
         clear hb3
         clear hHeld hK K
         have hHeld := hNew
         clear hNew
         try simp only [Act.put, PL]
         refine wpAnyH_take (i := 4) (oi := _) (v := ?va80) rfl (by kernel_rfl) (by kernel_rfl) (by kernel_rfl) (fun _ _ _ h => h) (Or.inl ⟨by kernel_rfl, ?hya80⟩) hHeld ?resta80
         case hya80 => (intro w hSw; go_simp; first | done | (with_reducible rfl))
         try simp only [Act.put, PL]
         refine wpAnyH_take (i := 5) (oi := _) (v := ?va81) rfl (by kernel_rfl) (by kernel_rfl) (by kernel_rfl) (fun _ _ _ h => h) (Or.inl ⟨by kernel_rfl, ?hya81⟩) hHeld ?resta81
         case hya81 => (intro w hSw; go_simp; first | done | (with_reducible rfl))
         try simp only [Act.put, PL]
         refine wpAnyH_take (i := 6) (oi := _) (v := ?va82) rfl (by kernel_rfl) (by kernel_rfl) (by kernel_rfl) (fun _ _ _ h => h) (Or.inl ⟨by kernel_rfl, ?hya82⟩) hHeld ?resta82
         case hya82 => (intro w hSw; go_simp; first | done | (with_reducible rfl))
         try simp only [Act.put, PL]
         refine wpAnyH_take (i := 7) (oi := _) (v := ?va83) rfl (by kernel_rfl) (by kernel_rfl) (by kernel_rfl) (fun _ _ _ h => h) (Or.inl ⟨by kernel_rfl, ?hya83⟩) hHeld ?resta83
         case hya83 => (intro w hSw; go_simp; first | done | (with_reducible rfl))
         try simp only [Act.put, PL]
         refine wpAnyH_ready (rs := [10]) (by kernel_rfl) (by simp) (AllReadyH.cons (o := _) rfl (fun K hK => ?_) AllReadyH.nil)
         have n0 := BX.c 0 rfl
         have f0 := BX.f 0 rfl
         have n1 := BX.c 1 rfl
         have f1 := BX.f 1 rfl
         go_simp
         clear n0 f0 n1 f1
         refine hK.out _ _ ((hHeld.set (.inr hX) _).set (.inr hX) _) (fun hNew => ?_)
         clear hHeld hK K
         have hHeld := hNew
         clear hNew
         try simp only [Act.put, PL]
         refine at_anyH (fun v => GB (fun _ => False) V4 v ∧ BK v (wa2.heap.size) [.slice A2 2 ca2, .slice Q2 1 cq2] ∧ BK v (wa57.heap.size) [.int .i64 0, .int .i64 0] ∧ Mid wa78.heap.size wa79 v) ⟨hHeld, ((BX.set 0 _).set 1 _), ((BY.far (by omega) _ _).far (by omega) _ _), ((hm.set (by omega) _).set (by omega) _)⟩ (fun wa84 hS => ?_)
         clear hHeld BX BY hm
         obtain ⟨hHeld, BX, BY, hm⟩ := hS
         refine wpAnyH_ready (rs := [11]) (by kernel_rfl) (by simp) (AllReadyH.cons (o := _) rfl (fun K hK => ?_) AllReadyH.nil)
         have n0 := BY.c 0 rfl
         have f0 := BY.f 0 rfl
         have n1 := BY.c 1 rfl
         have f1 := BY.f 1 rfl
         go_simp
         clear n0 f0 n1 f1
         refine hK.out _ _ ((hHeld.set (.inr hY) _).set (.inr hY) _) (fun hNew => ?_)
         clear hHeld hK K
         have hHeld := hNew
         clear hNew
         try simp only [Act.put, PL]
         refine at_anyH (fun v => GB (fun _ => False) V4 v ∧ BK v (wa2.heap.size) [.slice A2 2 ca2, .slice Q2 1 cq2] ∧ BK v (wa57.heap.size) [.int .i64 1, .int .i64 1] ∧ Mid wa78.heap.size wa79 v) ⟨hHeld, ((BX.far (by omega) _ _).far (by omega) _ _), ((BY.set 0 _).set 1 _), ((hm.set (by omega) _).set (by omega) _)⟩ (fun wa85 hS => ?_)
         clear hHeld BX BY hm
         obtain ⟨hHeld, BX, BY, hm⟩ := hS
         refine wpAnyH_take (i := 12) (oi := _) (v := ?va86) rfl (by kernel_rfl) (by kernel_rfl) (by kernel_rfl) (fun _ _ _ h => h) (Or.inl ⟨by kernel_rfl, ?hya86⟩) hHeld ?resta86
         case hya86 => (intro w hSw; go_simp; first | done | (with_reducible rfl))
         try simp only [Act.put, PL]
         refine wpAnyH_done (by kernel_rfl) ?_ _
         go_wp2_with fail
         go_meet
         exact ⟨_, _, A2, ca2, l2, Q2, cq2, rfl, rfl, rfl, hl2, hd2, (hfd2.mid hm).isCs, (hfd2.mid hm).isQs, BX, BY, hHeld.toBelow hbb (fun k hk => hk.elim) hBV⟩
       · as_aux_lemma =>
        go_simp
        refine hK.out _ _ (hHeld.al _) (fun hNew => ?_)
        have hY : V4.heap.size ≤ wa2.heap.size := hHeld.size
        clear hHeld hK K
        have hHeld := hNew
        clear hNew
        try simp only [Act.put, PL]
        refine at_anyH (fun v => GB (fun _ => False) V4 v ∧ BK v (wa2.heap.size) [.int .i64 0, .int .i64 0]) ⟨hHeld, BK.new _ _ _⟩ (fun wa87 hS => ?_)
        clear hHeld
        obtain ⟨hHeld, BY⟩ := hS
        refine wpAnyH_ready (rs := [2, 8]) (by kernel_rfl) (by simp) (AllReadyH.cons (o := _) rfl (fun K hK => ?_) (AllReadyH.cons (o := _) rfl (fun K hK => ?_) AllReadyH.nil))
        · as_aux_lemma =>
         go_simp
         refine (of4_any 1 _).mono ?_
         rintro e wa88 ⟨rfl, hb3⟩
         go_wp2_with fail
         refine hK.out _ _ (hHeld.below hb3) (fun hNew => ?_)
         replace BY := BY.keep hb3
         clear hb3
         clear hHeld hK K
         have hHeld := hNew
         clear hNew
         try simp only [Act.put, PL]
         refine wpAnyH_ready (rs := [3, 8]) (by kernel_rfl) (by simp) (AllReadyH.cons (o := _) rfl (fun K hK => ?_) (AllReadyH.cons (o := _) rfl (fun K hK => ?_) AllReadyH.nil))
         · as_aux_lemma =>
          go_simp
          refine (MK.out _ (hHeld.toBelow (Below.refl _ _) (fun k hk => hk.elim) (Nat.le_refl _))).mono ?_
          rintro e wa89 ⟨hb3, A2, ca2, l2, Q2, cq2, rfl, hl2, hd2, hfd2⟩
          have hm := Mid.refl wa88.heap.size wa89
          go_wp2_with fail
          refine hK.out _ _ (hHeld.below hb3) (fun hNew => ?_)
          have cY := BY.lt
          replace BY := BY.keep hb3
          clear hb3
          clear hHeld hK K
          have hHeld := hNew
          clear hNew
          try simp only [Act.put, PL]
          refine wpAnyH_take (i := 4) (oi := _) (v := ?va90) rfl (by kernel_rfl) (by kernel_rfl) (by kernel_rfl) (fun _ _ _ h => h) (Or.inl ⟨by kernel_rfl, ?hya90⟩) hHeld ?resta90
          case hya90 => (intro w hSw; go_simp; first | done | (with_reducible rfl))
          try simp only [Act.put, PL]
          refine wpAnyH_take (i := 5) (oi := _) (v := ?va91) rfl (by kernel_rfl) (by kernel_rfl) (by kernel_rfl) (fun _ _ _ h => h) (Or.inl ⟨by kernel_rfl, ?hya91⟩) hHeld ?resta91
          case hya91 => (intro w hSw; go_simp; first | done | (with_reducible rfl))
          try simp only [Act.put, PL]
          refine wpAnyH_take (i := 6) (oi := _) (v := ?va92) rfl (by kernel_rfl) (by kernel_rfl) (by kernel_rfl) (fun _ _ _ h => h) (Or.inl ⟨by kernel_rfl, ?hya92⟩) hHeld ?resta92
          case hya92 => (intro w hSw; go_simp; first | done | (with_reducible rfl))
          try simp only [Act.put, PL]
          refine wpAnyH_take (i := 7) (oi := _) (v := ?va93) rfl (by kernel_rfl) (by kernel_rfl) (by kernel_rfl) (fun _ _ _ h => h) (Or.inl ⟨by kernel_rfl, ?hya93⟩) hHeld ?resta93
          case hya93 => (intro w hSw; go_simp; first | done | (with_reducible rfl))
          try simp only [Act.put, PL]
          refine wpAnyH_ready (rs := [8]) (by kernel_rfl) (by simp) (AllReadyH.cons (o := _) rfl (fun K hK => ?_) AllReadyH.nil)
          go_simp
          refine hK.out _ _ (hHeld.al _) (fun hNew => ?_)
          have hX : V4.heap.size ≤ wa89.heap.size := hHeld.size
          have dYX := BY.lt
          clear hHeld hK K
          have hHeld := hNew
          clear hNew
          try simp only [Act.put, PL]
          have gXhm := hm.size
          refine at_anyH (fun v => GB (fun _ => False) V4 v ∧ BK v (wa2.heap.size) [.int .i64 0, .int .i64 0] ∧ BK v (wa89.heap.size) [.slice none 0 0, .slice none 0 0] ∧ Mid wa88.heap.size wa89 v) ⟨hHeld, BY.al _, BK.new _ _ _, hm.al _⟩ (fun wa94 hS => ?_)
          clear hHeld BY hm
          obtain ⟨hHeld, BY, BX, hm⟩ := hS
          refine wpAnyH_ready (rs := [10]) (by kernel_rfl) (by simp) (AllReadyH.cons (o := _) rfl (fun K hK => ?_) AllReadyH.nil)
          have n0 := BX.c 0 rfl
          have f0 := BX.f 0 rfl
          have n1 := BX.c 1 rfl
          have f1 := BX.f 1 rfl
          go_simp
          clear n0 f0 n1 f1
          refine hK.out _ _ ((hHeld.set (.inr hX) _).set (.inr hX) _) (fun hNew => ?_)
          clear hHeld hK K
          have hHeld := hNew
          clear hNew
          try simp only [Act.put, PL]
          refine at_anyH (fun v => GB (fun _ => False) V4 v ∧ BK v (wa2.heap.size) [.int .i64 0, .int .i64 0] ∧ BK v (wa89.heap.size) [.slice A2 2 ca2, .slice Q2 1 cq2] ∧ Mid wa88.heap.size wa89 v) ⟨hHeld, ((BY.far (by omega) _ _).far (by omega) _ _), ((BX.set 0 _).set 1 _), ((hm.set (by omega) _).set (by omega) _)⟩ (fun wa95 hS => ?_)
          clear hHeld BY BX hm
          obtain ⟨hHeld, BY, BX, hm⟩ := hS
          refine wpAnyH_ready (rs := [11]) (by kernel_rfl) (by simp) (AllReadyH.cons (o := _) rfl (fun K hK => ?_) AllReadyH.nil)
          have n0 := BY.c 0 rfl
          have f0 := BY.f 0 rfl
          have n1 := BY.c 1 rfl
          have f1 := BY.f 1 rfl
          go_simp
          clear n0 f0 n1 f1
          refine hK.out _ _ ((hHeld.set (.inr hY) _).set (.inr hY) _) (fun hNew => ?_)
          clear hHeld hK K
          have hHeld := hNew
          clear hNew
          try simp only [Act.put, PL]
          refine at_anyH (fun v => GB (fun _ => False) V4 v ∧ BK v (wa2.heap.size) [.int .i64 1, .int .i64 1] ∧ BK v (wa89.heap.size) [.slice A2 2 ca2, .slice Q2 1 cq2] ∧ Mid wa88.heap.size wa89 v) ⟨hHeld, ((BY.set 0 _).set 1 _), ((BX.far (by omega) _ _).far (by omega) _ _), ((hm.set (by omega) _).set (by omega) _)⟩ (fun wa96 hS => ?_)
          clear hHeld BY BX hm
          obtain ⟨hHeld, BY, BX, hm⟩ := hS
          refine wpAnyH_take (i := 12) (oi := _) (v := ?va97) rfl (by kernel_rfl) (by kernel_rfl) (by kernel_rfl) (fun _ _ _ h => h) (Or.inl ⟨by kernel_rfl, ?hya97⟩) hHeld ?resta97
          case hya97 => (intro w hSw; go_simp; first | done | (with_reducible rfl))
          try simp only [Act.put, PL]
          refine wpAnyH_done (by kernel_rfl) ?_ _
          go_wp2_with fail
          go_meet
          exact ⟨_, _, A2, ca2, l2, Q2, cq2, rfl, rfl, rfl, hl2, hd2, (hfd2.mid hm).isCs, (hfd2.mid hm).isQs, BX, BY, hHeld.toBelow hbb (fun k hk => hk.elim) hBV⟩
         · as_aux_lemma =>
          go_simp
          refine hK.out _ _ (hHeld.al _) (fun hNew => ?_)
          have hX : V4.heap.size ≤ wa88.heap.size := hHeld.size
          have dYX := BY.lt
          clear hHeld hK K
          have hHeld := hNew
          clear hNew
          try simp only [Act.put, PL]
          refine at_anyH (fun v => GB (fun _ => False) V4 v ∧ BK v (wa2.heap.size) [.int .i64 0, .int .i64 0] ∧ BK v (wa88.heap.size) [.slice none 0 0, .slice none 0 0]) ⟨hHeld, BY.al _, BK.new _ _ _⟩ (fun wa98 hS => ?_)
          clear hHeld BY
          obtain ⟨hHeld, BY, BX⟩ := hS
          refine wpAnyH_ready (rs := [3]) (by kernel_rfl) (by simp) (AllReadyH.cons (o := _) rfl (fun K hK => ?_) AllReadyH.nil)
          go_simp
          refine (MK.out _ (hHeld.toBelow (Below.refl _ _) (fun k hk => hk.elim) (Nat.le_refl _))).mono ?_
          rintro e wa99 ⟨hb3, A2, ca2, l2, Q2, cq2, rfl, hl2, hd2, hfd2⟩
          have hm := Mid.refl wa98.heap.size wa99
          go_wp2_with fail
          refine hK.out _ _ (hHeld.below hb3) (fun hNew => ?_)
          have cY := BY.lt
          replace BY := BY.keep hb3
          have cX := BX.lt
          replace BX := BX.keep hb3
          clear hb3
          clear hHeld hK K
          have hHeld := hNew
          clear hNew
          try simp only [Act.put, PL]
          refine wpAnyH_take (i := 4) (oi := _) (v := ?va100) rfl (by kernel_rfl) (by kernel_rfl) (by kernel_rfl) (fun _ _ _ h => h) (Or.inl ⟨by kernel_rfl, ?hya100⟩) hHeld ?resta100
          case hya100 => (intro w hSw; go_simp; first | done | (with_reducible rfl))
          try simp only [Act.put, PL]
          refine wpAnyH_take (i := 5) (oi := _) (v := ?va101) rfl (by kernel_rfl) (by kernel_rfl) (by kernel_rfl) (fun _ _ _ h => h) (Or.inl ⟨by kernel_rfl, ?hya101⟩) hHeld ?resta101
          case hya101 => (intro w hSw; go_simp; first | done | (with_reducible rfl))
          try simp only [Act.put, PL]
          refine wpAnyH_take (i := 6) (oi := _) (v := ?va102) rfl (by kernel_rfl) (by kernel_rfl) (by kernel_rfl) (fun _ _ _ h => h) (Or.inl ⟨by kernel_rfl, ?hya102⟩) hHeld ?resta102
          case hya102 => (intro w hSw; go_simp; first | done | (with_reducible rfl))
          try simp only [Act.put, PL]
          refine wpAnyH_take (i := 7) (oi := _) (v := ?va103) rfl (by kernel_rfl) (by kernel_rfl) (by kernel_rfl) (fun _ _ _ h => h) (Or.inl ⟨by kernel_rfl, ?hya103⟩) hHeld ?resta103
          case hya103 => (intro w hSw; go_simp; first | done | (with_reducible rfl))
          try simp only [Act.put, PL]
          refine wpAnyH_ready (rs := [10]) (by kernel_rfl) (by simp) (AllReadyH.cons (o := _) rfl (fun K hK => ?_) AllReadyH.nil)
          have n0 := BX.c 0 rfl
          have f0 := BX.f 0 rfl
          have n1 := BX.c 1 rfl
          have f1 := BX.f 1 rfl
          go_simp
          clear n0 f0 n1 f1
          refine hK.out _ _ ((hHeld.set (.inr hX) _).set (.inr hX) _) (fun hNew => ?_)
          clear hHeld hK K
          have hHeld := hNew
          clear hNew
          try simp only [Act.put, PL]
          refine at_anyH (fun v => GB (fun _ => False) V4 v ∧ BK v (wa2.heap.size) [.int .i64 0, .int .i64 0] ∧ BK v (wa88.heap.size) [.slice A2 2 ca2, .slice Q2 1 cq2] ∧ Mid wa98.heap.size wa99 v) ⟨hHeld, ((BY.far (by omega) _ _).far (by omega) _ _), ((BX.set 0 _).set 1 _), ((hm.set (by omega) _).set (by omega) _)⟩ (fun wa104 hS => ?_)
          clear hHeld BY BX hm
          obtain ⟨hHeld, BY, BX, hm⟩ := hS
          refine wpAnyH_ready (rs := [11]) (by kernel_rfl) (by simp) (AllReadyH.cons (o := _) rfl (fun K hK => ?_) AllReadyH.nil)
          have n0 := BY.c 0 rfl
          have f0 := BY.f 0 rfl
          have n1 := BY.c 1 rfl
          have f1 := BY.f 1 rfl
          go_simp
          clear n0 f0 n1 f1
          refine hK.out _ _ ((hHeld.set (.inr hY) _).set (.inr hY) _) (fun hNew => ?_)
          clear hHeld hK K
          have hHeld := hNew
          clear hNew
          try simp only [Act.put, PL]
          refine at_anyH (fun v => GB (fun _ => False) V4 v ∧ BK v (wa2.heap.size) [.int .i64 1, .int .i64 1] ∧ BK v (wa88.heap.size) [.slice A2 2 ca2, .slice Q2 1 cq2] ∧ Mid wa98.heap.size wa99 v) ⟨hHeld, ((BY.set 0 _).set 1 _), ((BX.far (by omega) _ _).far (by omega) _ _), ((hm.set (by omega) _).set (by omega) _)⟩ (fun wa105 hS => ?_)
          clear hHeld BY BX hm
          obtain ⟨hHeld, BY, BX, hm⟩ := hS
          refine wpAnyH_take (i := 12) (oi := _) (v := ?va106) rfl (by kernel_rfl) (by kernel_rfl) (by kernel_rfl) (fun _ _ _ h => h) (Or.inl ⟨by kernel_rfl, ?hya106⟩) hHeld ?resta106
          case hya106 => (intro w hSw; go_simp; first | done | (with_reducible rfl))
          try simp only [Act.put, PL]
          refine wpAnyH_done (by kernel_rfl) ?_ _
          go_wp2_with fail
          go_meet
          exact ⟨_, _, A2, ca2, l2, Q2, cq2, rfl, rfl, rfl, hl2, hd2, (hfd2.mid hm).isCs, (hfd2.mid hm).isQs, BX, BY, hHeld.toBelow hbb (fun k hk => hk.elim) hBV⟩
        · as_aux_lemma =>
         go_simp
         refine hK.out _ _ (hHeld.al _) (fun hNew => ?_)
         have hX : V4.heap.size ≤ wa87.heap.size := hHeld.size
         have dYX := BY.lt
         clear hHeld hK K
         have hHeld := hNew
         clear hNew
         try simp only [Act.put, PL]
         refine at_anyH (fun v => GB (fun _ => False) V4 v ∧ BK v (wa2.heap.size) [.int .i64 0, .int .i64 0] ∧ BK v (wa87.heap.size) [.slice none 0 0, .slice none 0 0]) ⟨hHeld, BY.al _, BK.new _ _ _⟩ (fun wa107 hS => ?_)
         clear hHeld BY
         obtain ⟨hHeld, BY, BX⟩ := hS
         refine wpAnyH_ready (rs := [2]) (by kernel_rfl) (by simp) (AllReadyH.cons (o := _) rfl (fun K hK => ?_) AllReadyH.nil)
         go_simp
         refine (of4_any 1 _).mono ?_
         rintro e wa108 ⟨rfl, hb3⟩
         go_wp2_with fail
         refine hK.out _ _ (hHeld.below hb3) (fun hNew => ?_)
         replace BY := BY.keep hb3
         replace BX := BX.keep hb3
         clear hb3
         clear hHeld hK K
         have hHeld := hNew
         clear hNew
         try simp only [Act.put, PL]
         refine wpAnyH_ready (rs := [3]) (by kernel_rfl) (by simp) (AllReadyH.cons (o := _) rfl (fun K hK => ?_) AllReadyH.nil)
         go_simp
         refine (MK.out _ (hHeld.toBelow (Below.refl _ _) (fun k hk => hk.elim) (Nat.le_refl _))).mono ?_
         rintro e wa109 ⟨hb3, A2, ca2, l2, Q2, cq2, rfl, hl2, hd2, hfd2⟩
         have hm := Mid.refl wa108.heap.size wa109
         go_wp2_with fail
         refine hK.out _ _ (hHeld.below hb3) (fun hNew => ?_)
         have cY := BY.lt
         replace BY := BY.keep hb3
         have cX := BX.lt
         replace BX := BX.keep hb3
         clear hb3
         clear hHeld hK K
         have hHeld := hNew
         clear hNew
         try simp only [Act.put, PL]
         refine wpAnyH_take (i := 4) (oi := _) (v := ?va110) rfl (by kernel_rfl) (by kernel_rfl) (by kernel_rfl) (fun _ _ _ h => h) (Or.inl ⟨by kernel_rfl, ?hya110⟩) hHeld ?resta110
         case hya110 => (intro w hSw; go_simp; first | done | (with_reducible rfl))
         try simp only [Act.put, PL]
         refine wpAnyH_take (i := 5) (oi := _) (v := ?va111) rfl (by kernel_rfl) (by kernel_rfl) (by kernel_rfl) (fun _ _ _ h => h) (Or.inl ⟨by kernel_rfl, ?hya111⟩) hHeld ?resta111
         case hya111 => (intro w hSw; go_simp; first | done | (with_reducible rfl))
         try simp only [Act.put, PL]
         refine wpAnyH_take (i := 6) (oi := _) (v := ?va112) rfl (by kernel_rfl) (by kernel_rfl) (by kernel_rfl) (fun _ _ _ h => h) (Or.inl ⟨by kernel_rfl, ?hya112⟩) hHeld ?resta112
         case hya112 => (intro w hSw; go_simp; first | done | (with_reducible rfl))
         try simp only [Act.put, PL]
         refine wpAnyH_take (i := 7) (oi := _) (v := ?va113) rfl (by kernel_rfl) (by kernel_rfl) (by kernel_rfl) (fun _ _ _ h => h) (Or.inl ⟨by kernel_rfl, ?hya113⟩) hHeld ?resta113
         case hya113 => (intro w hSw; go_simp; first | done | (with_reducible rfl))
         try simp only [Act.put, PL]
         refine wpAnyH_ready (rs := [10]) (by kernel_rfl) (by simp) (AllReadyH.cons (o := _) rfl (fun K hK => ?_) AllReadyH.nil)
         have n0 := BX.c 0 rfl
         have f0 := BX.f 0 rfl
         have n1 := BX.c 1 rfl
         have f1 := BX.f 1 rfl
         go_simp
         clear n0 f0 n1 f1
         refine hK.out _ _ ((hHeld.set (.inr hX) _).set (.inr hX) _) (fun hNew => ?_)
         clear hHeld hK K
         have hHeld := hNew
         clear hNew
         try simp only [Act.put, PL]
         refine at_anyH (fun v => GB (fun _ => False) V4 v ∧ BK v (wa2.heap.size) [.int .i64 0, .int .i64 0] ∧ BK v (wa87.heap.size) [.slice A2 2 ca2, .slice Q2 1 cq2] ∧ Mid wa108.heap.size wa109 v) ⟨hHeld, ((BY.far (by omega) _ _).far (by omega) _ _), ((BX.set 0 _).set 1 _), ((hm.set (by omega) _).set (by omega) _)⟩ (fun wa114 hS => ?_)
         clear hHeld BY BX hm
         obtain ⟨hHeld, BY, BX, hm⟩ := hS
         refine wpAnyH_ready (rs := [11]) (by kernel_rfl) (by simp) (AllReadyH.cons (o := _) rfl (fun K hK => ?_) AllReadyH.nil)
         have n0 := BY.c 0 rfl
         have f0 := BY.f 0 rfl
         have n1 := BY.c 1 rfl
         have f1 := BY.f 1 rfl
         go_simp
         clear n0 f0 n1 f1
         refine hK.out _ _ ((hHeld.set (.inr hY) _).set (.inr hY) _) (fun hNew => ?_)
         clear hHeld hK K
         have hHeld := hNew
         clear hNew
         try simp only [Act.put, PL]
         refine at_anyH (fun v => GB (fun _ => False) V4 v ∧ BK v (wa2.heap.size) [.int .i64 1, .int .i64 1] ∧ BK v (wa87.heap.size) [.slice A2 2 ca2, .slice Q2 1 cq2] ∧ Mid wa108.heap.size wa109 v) ⟨hHeld, ((BY.set 0 _).set 1 _), ((BX.far (by omega) _ _).far (by omega) _ _), ((hm.set (by omega) _).set (by omega) _)⟩ (fun wa115 hS => ?_)
         clear hHeld BY BX hm
         obtain ⟨hHeld, BY, BX, hm⟩ := hS
         refine wpAnyH_take (i := 12) (oi := _) (v := ?va116) rfl (by kernel_rfl) (by kernel_rfl) (by kernel_rfl) (fun _ _ _ h => h) (Or.inl ⟨by kernel_rfl, ?hya116⟩) hHeld ?resta116
         case hya116 => (intro w hSw; go_simp; first | done | (with_reducible rfl))
         try simp only [Act.put, PL]
         refine wpAnyH_done (by kernel_rfl) ?_ _
         go_wp2_with fail
         go_meet
         exact ⟨_, _, A2, ca2, l2, Q2, cq2, rfl, rfl, rfl, hl2, hd2, (hfd2.mid hm).isCs, (hfd2.mid hm).isQs, BX, BY, hHeld.toBelow hbb (fun k hk => hk.elim) hBV⟩
      · as_aux_lemma =>
       go_simp
       refine hK.out _ _ (hHeld.al _) (fun hNew => ?_)
       have hX : V4.heap.size ≤ wa0.heap.size := hHeld.size
       clear hHeld hK K
       have hHeld := hNew
       clear hNew
       try simp only [Act.put, PL]
       refine at_anyH (fun v => GB (fun _ => False) V4 v ∧ BK v (wa0.heap.size) [.slice none 0 0, .slice none 0 0]) ⟨hHeld, BK.new _ _ _⟩ (fun wa117 hS => ?_)
       clear hHeld
       obtain ⟨hHeld, BX⟩ := hS
       refine wpAnyH_ready (rs := [1, 9]) (by kernel_rfl) (by simp) (AllReadyH.cons (o := _) rfl (fun K hK => ?_) (AllReadyH.cons (o := _) rfl (fun K hK => ?_) AllReadyH.nil))
       · as_aux_lemma =>
        go_simp
        refine (of4_any 0 _).mono ?_
        rintro e wa118 ⟨rfl, hb3⟩
        go_wp2_with fail
        refine hK.out _ _ (hHeld.below hb3) (fun hNew => ?_)
        replace BX := BX.keep hb3
        clear hb3
        clear hHeld hK K
        have hHeld := hNew
        clear hNew
        try simp only [Act.put, PL]
        refine wpAnyH_ready (rs := [2, 9]) (by kernel_rfl) (by simp) (AllReadyH.cons (o := _) rfl (fun K hK => ?_) (AllReadyH.cons (o := _) rfl (fun K hK => ?_) AllReadyH.nil))
        · as_aux_lemma =>
         go_simp
         refine (of4_any 1 _).mono ?_
         rintro e wa119 ⟨rfl, hb3⟩
         go_wp2_with fail
         refine hK.out _ _ (hHeld.below hb3) (fun hNew => ?_)
         replace BX := BX.keep hb3
         clear hb3
         clear hHeld hK K
         have hHeld := hNew
         clear hNew
         try simp only [Act.put, PL]
         refine wpAnyH_ready (rs := [3, 9]) (by kernel_rfl) (by simp) (AllReadyH.cons (o := _) rfl (fun K hK => ?_) (AllReadyH.cons (o := _) rfl (fun K hK => ?_) AllReadyH.nil))
         · as_aux_lemma =>
          go_simp
          refine (MK.out _ (hHeld.toBelow (Below.refl _ _) (fun k hk => hk.elim) (Nat.le_refl _))).mono ?_
          rintro e wa120 ⟨hb3, A2, ca2, l2, Q2, cq2, rfl, hl2, hd2, hfd2⟩
          have hm := Mid.refl wa119.heap.size wa120
          go_wp2_with fail
          refine hK.out _ _ (hHeld.below hb3) (fun hNew => ?_)
          have cX := BX.lt
          replace BX := BX.keep hb3
          clear hb3
          clear hHeld hK K
          have hHeld := hNew
          clear hNew
          try simp only [Act.put, PL]
          refine wpAnyH_take (i := 4) (oi := _) (v := ?va121) rfl (by kernel_rfl) (by kernel_rfl) (by kernel_rfl) (fun _ _ _ h => h) (Or.inl ⟨by kernel_rfl, ?hya121⟩) hHeld ?resta121
          case hya121 => (intro w hSw; go_simp; first | done | (with_reducible rfl))
          try simp only [Act.put, PL]
          refine wpAnyH_take (i := 5) (oi := _) (v := ?va122) rfl (by kernel_rfl) (by kernel_rfl) (by kernel_rfl) (fun _ _ _ h => h) (Or.inl ⟨by kernel_rfl, ?hya122⟩) hHeld ?resta122
          case hya122 => (intro w hSw; go_simp; first | done | (with_reducible rfl))
          try simp only [Act.put, PL]
          refine wpAnyH_take (i := 6) (oi := _) (v := ?va123) rfl (by kernel_rfl) (by kernel_rfl) (by kernel_rfl) (fun _ _ _ h => h) (Or.inl ⟨by kernel_rfl, ?hya123⟩) hHeld ?resta123
          case hya123 => (intro w hSw; go_simp; first | done | (with_reducible rfl))
          try simp only [Act.put, PL]
          refine wpAnyH_take (i := 7) (oi := _) (v := ?va124) rfl (by kernel_rfl) (by kernel_rfl) (by kernel_rfl) (fun _ _ _ h => h) (Or.inl ⟨by kernel_rfl, ?hya124⟩) hHeld ?resta124
          case hya124 => (intro w hSw; go_simp; first | done | (with_reducible rfl))
          try simp only [Act.put, PL]
          refine wpAnyH_ready (rs := [9]) (by kernel_rfl) (by simp) (AllReadyH.cons (o := _) rfl (fun K hK => ?_) AllReadyH.nil)
          go_simp
          refine hK.out _ _ (hHeld.al _) (fun hNew => ?_)
          have hY : V4.heap.size ≤ wa120.heap.size := hHeld.size
          have dXY := BX.lt
          clear hHeld hK K
          have hHeld := hNew
          clear hNew
          try simp only [Act.put, PL]
          have gYhm := hm.size
          refine at_anyH (fun v => GB (fun _ => False) V4 v ∧ BK v (wa0.heap.size) [.slice none 0 0, .slice none 0 0] ∧ BK v (wa120.heap.size) [.int .i64 0, .int .i64 0] ∧ Mid wa119.heap.size wa120 v) ⟨hHeld, BX.al _, BK.new _ _ _, hm.al _⟩ (fun wa125 hS => ?_)
          clear hHeld BX hm
          obtain ⟨hHeld, BX, BY, hm⟩ := hS
          refine wpAnyH_ready (rs := [10]) (by kernel_rfl) (by simp) (AllReadyH.cons (o := _) rfl (fun K hK => ?_) AllReadyH.nil)
          have n0 := BX.c 0 rfl
          have f0 := BX.f 0 rfl
          have n1 := BX.c 1 rfl
          have f1 := BX.f 1 rfl
          go_simp
          clear n0 f0 n1 f1
          refine hK.out _ _ ((hHeld.set (.inr hX) _).set (.inr hX) _) (fun hNew => ?_)
          clear hHeld hK K
          have hHeld := hNew
          clear hNew
          try simp only [Act.put, PL]
          refine at_anyH (fun v => GB (fun _ => False) V4 v ∧ BK v (wa0.heap.size) [.slice A2 2 ca2, .slice Q2 1 cq2] ∧ BK v (wa120.heap.size) [.int .i64 0, .int .i64 0] ∧ Mid wa119.heap.size wa120 v) ⟨hHeld, ((BX.set 0 _).set 1 _), ((BY.far (by omega) _ _).far (by omega) _ _), ((hm.set (by omega) _).set (by omega) _)⟩ (fun wa126 hS => ?_)
          clear hHeld BX BY hm
          obtain ⟨hHeld, BX, BY, hm⟩ := hS
          refine wpAnyH_ready (rs := [11]) (by kernel_rfl) (by simp) (AllReadyH.cons (o := _) rfl (fun K hK => ?_) AllReadyH.nil)
          have n0 := BY.c 0 rfl
          have f0 := BY.f 0 rfl
          have n1 := BY.c 1 rfl
          have f1 := BY.f 1 rfl
          go_simp
          clear n0 f0 n1 f1
          refine hK.out _ _ ((hHeld.set (.inr hY) _).set (.inr hY) _) (fun hNew => ?_)
          clear hHeld hK K
          have hHeld := hNew
          clear hNew
          try simp only [Act.put, PL]
          refine at_anyH (fun v => GB (fun _ => False) V4 v ∧ BK v (wa0.heap.size) [.slice A2 2 ca2, .slice Q2 1 cq2] ∧ BK v (wa120.heap.size) [.int .i64 1, .int .i64 1] ∧ Mid wa119.heap.size wa120 v) ⟨hHeld, ((BX.far (by omega) _ _).far (by omega) _ _), ((BY.set 0 _).set 1 _), ((hm.set (by omega) _).set (by omega) _)⟩ (fun wa127 hS => ?_)
          clear hHeld BX BY hm
          obtain ⟨hHeld, BX, BY, hm⟩ := hS
          refine wpAnyH_take (i := 12) (oi := _) (v := ?va128) rfl (by kernel_rfl) (by kernel_rfl) (by kernel_rfl) (fun _ _ _ h => h) (Or.inl ⟨by kernel_rfl, ?hya128⟩) hHeld ?resta128
          case hya128 => (intro w hSw; go_simp; first | done | (with_reducible rfl))
          try simp only [Act.put, PL]
          refine wpAnyH_done (by kernel_rfl) ?_ _
          go_wp2_with fail
          go_meet
          exact ⟨_, _, A2, ca2, l2, Q2, cq2, rfl, rfl, rfl, hl2, hd2, (hfd2.mid hm).isCs, (hfd2.mid hm).isQs, BX, BY, hHeld.toBelow hbb (fun k hk => hk.elim) hBV⟩
         · as_aux_lemma =>
          go_simp
          refine hK.out _ _ (hHeld.al _) (fun hNew => ?_)
          have hY : V4.heap.size ≤ wa119.heap.size := hHeld.size
          have dXY := BX.lt
          clear hHeld hK K
          have hHeld := hNew
          clear hNew
          try simp only [Act.put, PL]
          refine at_anyH (fun v => GB (fun _ => False) V4 v ∧ BK v (wa0.heap.size) [.slice none 0 0, .slice none 0 0] ∧ BK v (wa119.heap.size) [.int .i64 0, .int .i64 0]) ⟨hHeld, BX.al _, BK.new _ _ _⟩ (fun wa129 hS => ?_)
          clear hHeld BX
          obtain ⟨hHeld, BX, BY⟩ := hS
          refine wpAnyH_ready (rs := [3]) (by kernel_rfl) (by simp) (AllReadyH.cons (o := _) rfl (fun K hK => ?_) AllReadyH.nil)
          go_simp
          refine (MK.out _ (hHeld.toBelow (Below.refl _ _) (fun k hk => hk.elim) (Nat.le_refl _))).mono ?_
          rintro e wa130 ⟨hb3, A2, ca2, l2, Q2, cq2, rfl, hl2, hd2, hfd2⟩
          have hm := Mid.refl wa129.heap.size wa130
          go_wp2_with fail
          refine hK.out _ _ (hHeld.below hb3) (fun hNew => ?_)
          have cX := BX.lt
          replace BX := BX.keep hb3
          have cY := BY.lt
          replace BY := BY.keep hb3
          clear hb3
          clear hHeld hK K
          have hHeld := hNew
          clear hNew
          try simp only [Act.put, PL]
          refine wpAnyH_take (i := 4) (oi := _) (v := ?va131) rfl (by kernel_rfl) (by kernel_rfl) (by kernel_rfl) (fun _ _ _ h => h) (Or.inl ⟨by kernel_rfl, ?hya131⟩) hHeld ?resta131
          case hya131 => (intro w hSw; go_simp; first | done | (with_reducible rfl))
          try simp only [Act.put, PL]
          refine wpAnyH_take (i := 5) (oi := _) (v := ?va132) rfl (by kernel_rfl) (by kernel_rfl) (by kernel_rfl) (fun _ _ _ h => h) (Or.inl ⟨by kernel_rfl, ?hya132⟩) hHeld ?resta132
          case hya132 => (intro w hSw; go_simp; first | done | (with_reducible rfl))
          try simp only [Act.put, PL]
          refine wpAnyH_take (i := 6) (oi := _) (v := ?va133) rfl (by kernel_rfl) (by kernel_rfl) (by kernel_rfl) (fun _ _ _ h => h) (Or.inl ⟨by kernel_rfl, ?hya133⟩) hHeld ?resta133
          case hya133 => (intro w hSw; go_simp; first | done | (with_reducible rfl))
          try simp only [Act.put, PL]
          refine wpAnyH_take (i := 7) (oi := _) (v := ?va134) rfl (by kernel_rfl) (by kernel_rfl) (by kernel_rfl) (fun _ _ _ h => h) (Or.inl ⟨by kernel_rfl, ?hya134⟩) hHeld ?resta134
          case hya134 => (intro w hSw; go_simp; first | done | (with_reducible rfl))
          try simp only [Act.put, PL]
          refine wpAnyH_ready (rs := [10]) (by kernel_rfl) (by simp) (AllReadyH.cons (o := _) rfl (fun K hK => ?_) AllReadyH.nil)
          have n0 := BX.c 0 rfl
          have f0 := BX.f 0 rfl
          have n1 := BX.c 1 rfl
          have f1 := BX.f 1 rfl
          go_simp
          clear n0 f0 n1 f1
          refine hK.out _ _ ((hHeld.set (.inr hX) _).set (.inr hX) _) (fun hNew => ?_)
          clear hHeld hK K
          have hHeld := hNew
          clear hNew
          try simp only [Act.put, PL]
          refine at_anyH (fun v => GB (fun _ => False) V4 v ∧ BK v (wa0.heap.size) [.slice A2 2 ca2, .slice Q2 1 cq2] ∧ BK v (wa119.heap.size) [.int .i64 0, .int .i64 0] ∧ Mid wa129.heap.size wa130 v) ⟨hHeld, ((BX.set 0 _).set 1 _), ((BY.far (by omega) _ _).far (by omega) _ _), ((hm.set (by omega) _).set (by omega) _)⟩ (fun wa135 hS => ?_)
          clear hHeld BX BY hm
          obtain ⟨hHeld, BX, BY, hm⟩ := hS
          refine wpAnyH_ready (rs := [11]) (by kernel_rfl) (by simp) (AllReadyH.cons (o := _) rfl (fun K hK => ?_) AllReadyH.nil)
          have n0 := BY.c 0 rfl
          have f0 := BY.f 0 rfl
          have n1 := BY.c 1 rfl
          have f1 := BY.f 1 rfl
          go_simp
          clear n0 f0 n1 f1
          refine hK.out _ _ ((hHeld.set (.inr hY) _).set (.inr hY) _) (fun hNew => ?_)
          clear hHeld hK K
          have hHeld := hNew
          clear hNew
          try simp only [Act.put, PL]
          refine at_anyH (fun v => GB (fun _ => False) V4 v ∧ BK v (wa0.heap.size) [.slice A2 2 ca2, .slice Q2 1 cq2] ∧ BK v (wa119.heap.size) [.int .i64 1, .int .i64 1] ∧ Mid wa129.heap.size wa130 v) ⟨hHeld, ((BX.far (by omega) _ _).far (by omega) _ _), ((BY.set 0 _).set 1 _), ((hm.set (by omega) _).set (by omega) _)⟩ (fun wa136 hS => ?_)
          clear hHeld BX BY hm
          obtain ⟨hHeld, BX, BY, hm⟩ := hS
          refine wpAnyH_take (i := 12) (oi := _) (v := ?va137) rfl (by kernel_rfl) (by kernel_rfl) (by kernel_rfl) (fun _ _ _ h => h) (Or.inl ⟨by kernel_rfl, ?hya137⟩) hHeld ?resta137
          case hya137 => (intro w hSw; go_simp; first | done | (with_reducible rfl))
          try simp only [Act.put, PL]
          refine wpAnyH_done (by kernel_rfl) ?_ _
          go_wp2_with fail
          go_meet
          exact ⟨_, _, A2, ca2, l2, Q2, cq2, rfl, rfl, rfl, hl2, hd2, (hfd2.mid hm).isCs, (hfd2.mid hm).isQs, BX, BY, hHeld.toBelow hbb (fun k hk => hk.elim) hBV⟩
        · as_aux_lemma =>
         go_simp
         refine hK.out _ _ (hHeld.al _) (fun hNew => ?_)
         have hY : V4.heap.size ≤ wa118.heap.size := hHeld.size
         have dXY := BX.lt
         clear hHeld hK K
         have hHeld := hNew
         clear hNew
         try simp only [Act.put, PL]
         refine at_anyH (fun v => GB (fun _ => False) V4 v ∧ BK v (wa0.heap.size) [.slice none 0 0, .slice none 0 0] ∧ BK v (wa118.heap.size) [.int .i64 0, .int .i64 0]) ⟨hHeld, BX.al _, BK.new _ _ _⟩ (fun wa138 hS => ?_)
         clear hHeld BX
         obtain ⟨hHeld, BX, BY⟩ := hS
         refine wpAnyH_ready (rs := [2]) (by kernel_rfl) (by simp) (AllReadyH.cons (o := _) rfl (fun K hK => ?_) AllReadyH.nil)
         go_simp
         refine (of4_any 1 _).mono ?_
         rintro e wa139 ⟨rfl, hb3⟩
         go_wp2_with fail
         refine hK.out _ _ (hHeld.below hb3) (fun hNew => ?_)
         replace BX := BX.keep hb3
         replace BY := BY.keep hb3
         clear hb3
         clear hHeld hK K
         have hHeld := hNew
         clear hNew
         try simp only [Act.put, PL]
         refine wpAnyH_ready (rs := [3]) (by kernel_rfl) (by simp) (AllReadyH.cons (o := _) rfl (fun K hK => ?_) AllReadyH.nil)
         go_simp
         refine (MK.out _ (hHeld.toBelow (Below.refl _ _) (fun k hk => hk.elim) (Nat.le_refl _))).mono ?_
         rintro e wa140 ⟨hb3, A2, ca2, l2, Q2, cq2, rfl, hl2, hd2, hfd2⟩
         have hm := Mid.refl wa139.heap.size wa140
         go_wp2_with fail
         refine hK.out _ _ (hHeld.below hb3) (fun hNew => ?_)
         have cX := BX.lt
         replace BX := BX.keep hb3
         have cY := BY.lt
         replace BY := BY.keep hb3
         clear hb3
         clear hHeld hK K
         have hHeld := hNew
         clear hNew
         try simp only [Act.put, PL]
         refine wpAnyH_take (i := 4) (oi := _) (v := ?va141) rfl (by kernel_rfl) (by kernel_rfl) (by kernel_rfl) (fun _ _ _ h => h) (Or.inl ⟨by kernel_rfl, ?hya141⟩) hHeld ?resta141
         case hya141 => (intro w hSw; go_simp; first | done | (with_reducible rfl))
         try simp only [Act.put, PL]
         refine wpAnyH_take (i := 5) (oi := _) (v := ?va142) rfl (by kernel_rfl) (by kernel_rfl) (by kernel_rfl) (fun _ _ _ h => h) (Or.inl ⟨by kernel_rfl, ?hya142⟩) hHeld ?resta142
         case hya142 => (intro w hSw; go_simp; first | done | (with_reducible rfl))
         try simp only [Act.put, PL]
         refine wpAnyH_take (i := 6) (oi := _) (v := ?va143) rfl (by kernel_rfl) (by kernel_rfl) (by kernel_rfl) (fun _ _ _ h => h) (Or.inl ⟨by kernel_rfl, ?hya143⟩) hHeld ?resta143
         case hya143 => (intro w hSw; go_simp; first | done | (with_reducible rfl))
         try simp only [Act.put, PL]
         refine wpAnyH_take (i := 7) (oi := _) (v := ?va144) rfl (by kernel_rfl) (by kernel_rfl) (by kernel_rfl) (fun _ _ _ h => h) (Or.inl ⟨by kernel_rfl, ?hya144⟩) hHeld ?resta144
         case hya144 => (intro w hSw; go_simp; first | done | (with_reducible rfl))
         try simp only [Act.put, PL]
         refine wpAnyH_ready (rs := [10]) (by kernel_rfl) (by simp) (AllReadyH.cons (o := _) rfl (fun K hK => ?_) AllReadyH.nil)
         have n0 := BX.c 0 rfl
         have f0 := BX.f 0 rfl
         have n1 := BX.c 1 rfl
         have f1 := BX.f 1 rfl
         go_simp
         clear n0 f0 n1 f1
         refine hK.out _ _ ((hHeld.set (.inr hX) _).set (.inr hX) _) (fun hNew => ?_)
         clear hHeld hK K
         have hHeld := hNew
         clear hNew
         try simp only [Act.put, PL]
         refine at_anyH (fun v => GB (fun _ => False) V4 v ∧ BK v (wa0.heap.size) [.slice A2 2 ca2, .slice Q2 1 cq2] ∧ BK v (wa118.heap.size) [.int .i64 0, .int .i64 0] ∧ Mid wa139.heap.size wa140 v) ⟨hHeld, ((BX.set 0 _).set 1 _), ((BY.far (by omega) _ _).far (by omega) _ _), ((hm.set (by omega) _).set (by omega) _)⟩ (fun wa145 hS => ?_)
         clear hHeld BX BY hm
         obtain ⟨hHeld, BX, BY, hm⟩ := hS
         refine wpAnyH_ready (rs := [11]) (by kernel_rfl) (by simp) (AllReadyH.cons (o := _) rfl (fun K hK => ?_) AllReadyH.nil)
         have n0 := BY.c 0 rfl
         have f0 := BY.f 0 rfl
         have n1 := BY.c 1 rfl
         have f1 := BY.f 1 rfl
         go_simp
         clear n0 f0 n1 f1
         refine hK.out _ _ ((hHeld.set (.inr hY) _).set (.inr hY) _) (fun hNew => ?_)
         clear hHeld hK K
         have hHeld := hNew
         clear hNew
         try simp only [Act.put, PL]
         refine at_anyH (fun v => GB (fun _ => False) V4 v ∧ BK v (wa0.heap.size) [.slice A2 2 ca2, .slice Q2 1 cq2] ∧ BK v (wa118.heap.size) [.int .i64 1, .int .i64 1] ∧ Mid wa139.heap.size wa140 v) ⟨hHeld, ((BX.far (by omega) _ _).far (by omega) _ _), ((BY.set 0 _).set 1 _), ((hm.set (by omega) _).set (by omega) _)⟩ (fun wa146 hS => ?_)
         clear hHeld BX BY hm
         obtain ⟨hHeld, BX, BY, hm⟩ := hS
         refine wpAnyH_take (i := 12) (oi := _) (v := ?va147) rfl (by kernel_rfl) (by kernel_rfl) (by kernel_rfl) (fun _ _ _ h => h) (Or.inl ⟨by kernel_rfl, ?hya147⟩) hHeld ?resta147
         case hya147 => (intro w hSw; go_simp; first | done | (with_reducible rfl))
         try simp only [Act.put, PL]
         refine wpAnyH_done (by kernel_rfl) ?_ _
         go_wp2_with fail
         go_meet
         exact ⟨_, _, A2, ca2, l2, Q2, cq2, rfl, rfl, rfl, hl2, hd2, (hfd2.mid hm).isCs, (hfd2.mid hm).isQs, BX, BY, hHeld.toBelow hbb (fun k hk => hk.elim) hBV⟩
       · as_aux_lemma =>
        go_simp
        refine hK.out _ _ (hHeld.al _) (fun hNew => ?_)
        have hY : V4.heap.size ≤ wa117.heap.size := hHeld.size
        have dXY := BX.lt
        clear hHeld hK K
        have hHeld := hNew
        clear hNew
        try simp only [Act.put, PL]
        refine at_anyH (fun v => GB (fun _ => False) V4 v ∧ BK v (wa0.heap.size) [.slice none 0 0, .slice none 0 0] ∧ BK v (wa117.heap.size) [.int .i64 0, .int .i64 0]) ⟨hHeld, BX.al _, BK.new _ _ _⟩ (fun wa148 hS => ?_)
        clear hHeld BX
        obtain ⟨hHeld, BX, BY⟩ := hS
        refine wpAnyH_ready (rs := [1]) (by kernel_rfl) (by simp) (AllReadyH.cons (o := _) rfl (fun K hK => ?_) AllReadyH.nil)
        go_simp
        refine (of4_any 0 _).mono ?_
        rintro e wa149 ⟨rfl, hb3⟩
        go_wp2_with fail
        refine hK.out _ _ (hHeld.below hb3) (fun hNew => ?_)
        replace BX := BX.keep hb3
        replace BY := BY.keep hb3
        clear hb3
        clear hHeld hK K
        have hHeld := hNew
        clear hNew
        try simp only [Act.put, PL]
        refine wpAnyH_ready (rs := [2]) (by kernel_rfl) (by simp) (AllReadyH.cons (o := _) rfl (fun K hK => ?_) AllReadyH.nil)
        go_simp
        refine (of4_any 1 _).mono ?_
        rintro e wa150 ⟨rfl, hb3⟩
        go_wp2_with fail
        refine hK.out _ _ (hHeld.below hb3) (fun hNew => ?_)
        replace BX := BX.keep hb3
        replace BY := BY.keep hb3
        clear hb3
        clear hHeld hK K
        have hHeld := hNew
        clear hNew
        try simp only [Act.put, PL]
        refine wpAnyH_ready (rs := [3]) (by kernel_rfl) (by simp) (AllReadyH.cons (o := _) rfl (fun K hK => ?_) AllReadyH.nil)
        go_simp
        refine (MK.out _ (hHeld.toBelow (Below.refl _ _) (fun k hk => hk.elim) (Nat.le_refl _))).mono ?_
        rintro e wa151 ⟨hb3, A2, ca2, l2, Q2, cq2, rfl, hl2, hd2, hfd2⟩
        have hm := Mid.refl wa150.heap.size wa151
        go_wp2_with fail
        refine hK.out _ _ (hHeld.below hb3) (fun hNew => ?_)
        have cX := BX.lt
        replace BX := BX.keep hb3
        have cY := BY.lt
        replace BY := BY.keep hb3
        clear hb3
        clear hHeld hK K
        have hHeld := hNew
        clear hNew
        try simp only [Act.put, PL]
        refine wpAnyH_take (i := 4) (oi := _) (v := ?va152) rfl (by kernel_rfl) (by kernel_rfl) (by kernel_rfl) (fun _ _ _ h => h) (Or.inl ⟨by kernel_rfl, ?hya152⟩) hHeld ?resta152
        case hya152 => (intro w hSw; go_simp; first | done | (with_reducible rfl))
        try simp only [Act.put, PL]
        refine wpAnyH_take (i := 5) (oi := _) (v := ?va153) rfl (by kernel_rfl) (by kernel_rfl) (by kernel_rfl) (fun _ _ _ h => h) (Or.inl ⟨by kernel_rfl, ?hya153⟩) hHeld ?resta153
        case hya153 => (intro w hSw; go_simp; first | done | (with_reducible rfl))
        try simp only [Act.put, PL]
        refine wpAnyH_take (i := 6) (oi := _) (v := ?va154) rfl (by kernel_rfl) (by kernel_rfl) (by kernel_rfl) (fun _ _ _ h => h) (Or.inl ⟨by kernel_rfl, ?hya154⟩) hHeld ?resta154
        case hya154 => (intro w hSw; go_simp; first | done | (with_reducible rfl))
        try simp only [Act.put, PL]
        refine wpAnyH_take (i := 7) (oi := _) (v := ?va155) rfl (by kernel_rfl) (by kernel_rfl) (by kernel_rfl) (fun _ _ _ h => h) (Or.inl ⟨by kernel_rfl, ?hya155⟩) hHeld ?resta155
        case hya155 => (intro w hSw; go_simp; first | done | (with_reducible rfl))
        try simp only [Act.put, PL]
        refine wpAnyH_ready (rs := [10]) (by kernel_rfl) (by simp) (AllReadyH.cons (o := _) rfl (fun K hK => ?_) AllReadyH.nil)
        have n0 := BX.c 0 rfl
        have f0 := BX.f 0 rfl
        have n1 := BX.c 1 rfl
        have f1 := BX.f 1 rfl
        go_simp
        clear n0 f0 n1 f1
        refine hK.out _ _ ((hHeld.set (.inr hX) _).set (.inr hX) _) (fun hNew => ?_)
        clear hHeld hK K
        have hHeld := hNew
        clear hNew
        try simp only [Act.put, PL]
        refine at_anyH (fun v => GB (fun _ => False) V4 v ∧ BK v (wa0.heap.size) [.slice A2 2 ca2, .slice Q2 1 cq2] ∧ BK v (wa117.heap.size) [.int .i64 0, .int .i64 0] ∧ Mid wa150.heap.size wa151 v) ⟨hHeld, ((BX.set 0 _).set 1 _), ((BY.far (by omega) _ _).far (by omega) _ _), ((hm.set (by omega) _).set (by omega) _)⟩ (fun wa156 hS => ?_)
        clear hHeld BX BY hm
        obtain ⟨hHeld, BX, BY, hm⟩ := hS
        refine wpAnyH_ready (rs := [11]) (by kernel_rfl) (by simp) (AllReadyH.cons (o := _) rfl (fun K hK => ?_) AllReadyH.nil)
        have n0 := BY.c 0 rfl
        have f0 := BY.f 0 rfl
        have n1 := BY.c 1 rfl
        have f1 := BY.f 1 rfl
        go_simp
        clear n0 f0 n1 f1
        refine hK.out _ _ ((hHeld.set (.inr hY) _).set (.inr hY) _) (fun hNew => ?_)
        clear hHeld hK K
        have hHeld := hNew
        clear hNew
        try simp only [Act.put, PL]
        refine at_anyH (fun v => GB (fun _ => False) V4 v ∧ BK v (wa0.heap.size) [.slice A2 2 ca2, .slice Q2 1 cq2] ∧ BK v (wa117.heap.size) [.int .i64 1, .int .i64 1] ∧ Mid wa150.heap.size wa151 v) ⟨hHeld, ((BX.far (by omega) _ _).far (by omega) _ _), ((BY.set 0 _).set 1 _), ((hm.set (by omega) _).set (by omega) _)⟩ (fun wa157 hS => ?_)
        clear hHeld BX BY hm
        obtain ⟨hHeld, BX, BY, hm⟩ := hS
        refine wpAnyH_take (i := 12) (oi := _) (v := ?va158) rfl (by kernel_rfl) (by kernel_rfl) (by kernel_rfl) (fun _ _ _ h => h) (Or.inl ⟨by kernel_rfl, ?hya158⟩) hHeld ?resta158
        case hya158 => (intro w hSw; go_simp; first | done | (with_reducible rfl))
        try simp only [Act.put, PL]
        refine wpAnyH_done (by kernel_rfl) ?_ _
        go_wp2_with fail
        go_meet
        exact ⟨_, _, A2, ca2, l2, Q2, cq2, rfl, rfl, rfl, hl2, hd2, (hfd2.mid hm).isCs, (hfd2.mid hm).isQs, BX, BY, hHeld.toBelow hbb (fun k hk => hk.elim) hBV⟩
      · as_aux_lemma =>
       go_simp
       refine hK.out _ _ (hHeld.al _) (fun hNew => ?_)
       have hY : V4.heap.size ≤ wa0.heap.size := hHeld.size
       clear hHeld hK K
       have hHeld := hNew
       clear hNew
       try simp only [Act.put, PL]
       refine at_anyH (fun v => GB (fun _ => False) V4 v ∧ BK v (wa0.heap.size) [.int .i64 0, .int .i64 0]) ⟨hHeld, BK.new _ _ _⟩ (fun wa159 hS => ?_)
       clear hHeld
       obtain ⟨hHeld, BY⟩ := hS
       refine wpAnyH_ready (rs := [1, 8]) (by kernel_rfl) (by simp) (AllReadyH.cons (o := _) rfl (fun K hK => ?_) (AllReadyH.cons (o := _) rfl (fun K hK => ?_) AllReadyH.nil))
       · as_aux_lemma =>
        go_simp
        refine (of4_any 0 _).mono ?_
        rintro e wa160 ⟨rfl, hb3⟩
        go_wp2_with fail
        refine hK.out _ _ (hHeld.below hb3) (fun hNew => ?_)
        replace BY := BY.keep hb3
        clear hb3
        clear hHeld hK K
        have hHeld := hNew
        clear hNew
        try simp only [Act.put, PL]
        refine wpAnyH_ready (rs := [2, 8]) (by kernel_rfl) (by simp) (AllReadyH.cons (o := _) rfl (fun K hK => ?_) (AllReadyH.cons (o := _) rfl (fun K hK => ?_) AllReadyH.nil))
        · as_aux_lemma =>
         go_simp
         refine (of4_any 1 _).mono ?_
         rintro e wa161 ⟨rfl, hb3⟩
         go_wp2_with fail
         refine hK.out _ _ (hHeld.below hb3) (fun hNew => ?_)
         replace BY := BY.keep hb3
         clear hb3
         clear hHeld hK K
         have hHeld := hNew
         clear hNew
         try simp only [Act.put, PL]
         refine wpAnyH_ready (rs := [3, 8]) (by kernel_rfl) (by simp) (AllReadyH.cons (o := _) rfl (fun K hK => ?_) (AllReadyH.cons (o := _) rfl (fun K hK => ?_) AllReadyH.nil))
         · as_aux_lemma =>
          go_simp
          refine (MK.out _ (hHeld.toBelow (Below.refl _ _) (fun k hk => hk.elim) (Nat.le_refl _))).mono ?_
          rintro e wa162 ⟨hb3, A2, ca2, l2, Q2, cq2, rfl, hl2, hd2, hfd2⟩
          have hm := Mid.refl wa161.heap.size wa162
          go_wp2_with fail
          refine hK.out _ _ (hHeld.below hb3) (fun hNew => ?_)
          have cY := BY.lt
          replace BY := BY.keep hb3
          clear hb3
          clear hHeld hK K
          have hHeld := hNew
          clear hNew
          try simp only [Act.put, PL]
          refine wpAnyH_take (i := 4) (oi := _) (v := ?va163) rfl (by kernel_rfl) (by kernel_rfl) (by kernel_rfl) (fun _ _ _ h => h) (Or.inl ⟨by kernel_rfl, ?hya163⟩) hHeld ?resta163
          case hya163 => (intro w hSw; go_simp; first | done | (with_reducible rfl))
          try simp only [Act.put, PL]
          refine wpAnyH_take (i := 5) (oi := _) (v := ?va164) rfl (by kernel_rfl) (by kernel_rfl) (by kernel_rfl) (fun _ _ _ h => h) (Or.inl ⟨by kernel_rfl, ?hya164⟩) hHeld ?resta164
          case hya164 => (intro w hSw; go_simp; first | done | (with_reducible rfl))
          try simp only [Act.put, PL]
          refine wpAnyH_take (i := 6) (oi := _) (v := ?va165) rfl (by kernel_rfl) (by kernel_rfl) (by kernel_rfl) (fun _ _ _ h => h) (Or.inl ⟨by kernel_rfl, ?hya165⟩) hHeld ?resta165
          case hya165 => (intro w hSw; go_simp; first | done | (with_reducible rfl))
          try simp only [Act.put, PL]
          refine wpAnyH_take (i := 7) (oi := _) (v := ?va166) rfl (by kernel_rfl) (by kernel_rfl) (by kernel_rfl) (fun _ _ _ h => h) (Or.inl ⟨by kernel_rfl, ?hya166⟩) hHeld ?resta166
          case hya166 => (intro w hSw; go_simp; first | done | (with_reducible rfl))
          try simp only [Act.put, PL]
          refine wpAnyH_ready (rs := [8]) (by kernel_rfl) (by simp) (AllReadyH.cons (o := _) rfl (fun K hK => ?_) AllReadyH.nil)
          go_simp
          refine hK.out _ _ (hHeld.al _) (fun hNew => ?_)
          have hX : V4.heap.size ≤ wa162.heap.size := hHeld.size
          have dYX := BY.lt
          clear hHeld hK K
          have hHeld := hNew
          clear hNew
          try simp only [Act.put, PL]
          have gXhm := hm.size
          refine at_anyH (fun v => GB (fun _ => False) V4 v ∧ BK v (wa0.heap.size) [.int .i64 0, .int .i64 0] ∧ BK v (wa162.heap.size) [.slice none 0 0, .slice none 0 0] ∧ Mid wa161.heap.size wa162 v) ⟨hHeld, BY.al _, BK.new _ _ _, hm.al _⟩ (fun wa167 hS => ?_)
          clear hHeld BY hm
          obtain ⟨hHeld, BY, BX, hm⟩ := hS
          refine wpAnyH_ready (rs := [10]) (by kernel_rfl) (by simp) (AllReadyH.cons (o := _) rfl (fun K hK => ?_) AllReadyH.nil)
          have n0 := BX.c 0 rfl
          have f0 := BX.f 0 rfl
          have n1 := BX.c 1 rfl
          have f1 := BX.f 1 rfl
          go_simp
          clear n0 f0 n1 f1
          refine hK.out _ _ ((hHeld.set (.inr hX) _).set (.inr hX) _) (fun hNew => ?_)
          clear hHeld hK K
          have hHeld := hNew
          clear hNew
          try simp only [Act.put, PL]
          refine at_anyH (fun v => GB (fun _ => False) V4 v ∧ BK v (wa0.heap.size) [.int .i64 0, .int .i64 0] ∧ BK v (wa162.heap.size) [.slice A2 2 ca2, .slice Q2 1 cq2] ∧ Mid wa161.heap.size wa162 v) ⟨hHeld, ((BY.far (by omega) _ _).far (by omega) _ _), ((BX.set 0 _).set 1 _), ((hm.set (by omega) _).set (by omega) _)⟩ (fun wa168 hS => ?_)
          clear hHeld BY BX hm
          obtain ⟨hHeld, BY, BX, hm⟩ := hS
          refine wpAnyH_ready (rs := [11]) (by kernel_rfl) (by simp) (AllReadyH.cons (o := _) rfl (fun K hK => ?_) AllReadyH.nil)
          have n0 := BY.c 0 rfl
          have f0 := BY.f 0 rfl
          have n1 := BY.c 1 rfl
          have f1 := BY.f 1 rfl
          go_simp
          clear n0 f0 n1 f1
          refine hK.out _ _ ((hHeld.set (.inr hY) _).set (.inr hY) _) (fun hNew => ?_)
          clear hHeld hK K
          have hHeld := hNew
          clear hNew
          try simp only [Act.put, PL]
          refine at_anyH (fun v => GB (fun _ => False) V4 v ∧ BK v (wa0.heap.size) [.int .i64 1, .int .i64 1] ∧ BK v (wa162.heap.size) [.slice A2 2 ca2, .slice Q2 1 cq2] ∧ Mid wa161.heap.size wa162 v) ⟨hHeld, ((BY.set 0 _).set 1 _), ((BX.far (by omega) _ _).far (by omega) _ _), ((hm.set (by omega) _).set (by omega) _)⟩ (fun wa169 hS => ?_)
          clear hHeld BY BX hm
          obtain ⟨hHeld, BY, BX, hm⟩ := hS
          refine wpAnyH_take (i := 12) (oi := _) (v := ?va170) rfl (by kernel_rfl) (by kernel_rfl) (by kernel_rfl) (fun _ _ _ h => h) (Or.inl ⟨by kernel_rfl, ?hya170⟩) hHeld ?resta170
          case hya170 => (intro w hSw; go_simp; first | done | (with_reducible rfl))
          try simp only [Act.put, PL]
          refine wpAnyH_done (by kernel_rfl) ?_ _
          go_wp2_with fail
          go_meet
          exact ⟨_, _, A2, ca2, l2, Q2, cq2, rfl, rfl, rfl, hl2, hd2, (hfd2.mid hm).isCs, (hfd2.mid hm).isQs, BX, BY, hHeld.toBelow hbb (fun k hk => hk.elim) hBV⟩
         · as_aux_lemma =>
          go_simp
          refine hK.out _ _ (hHeld.al _) (fun hNew => ?_)
          have hX : V4.heap.size ≤ wa161.heap.size := hHeld.size
          have dYX := BY.lt
          clear hHeld hK K
          have hHeld := hNew
          clear hNew
          try simp only [Act.put, PL]
          refine at_anyH (fun v => GB (fun _ => False) V4 v ∧ BK v (wa0.heap.size) [.int .i64 0, .int .i64 0] ∧ BK v (wa161.heap.size) [.slice none 0 0, .slice none 0 0]) ⟨hHeld, BY.al _, BK.new _ _ _⟩ (fun wa171 hS => ?_)
          clear hHeld BY
          obtain ⟨hHeld, BY, BX⟩ := hS
          refine wpAnyH_ready (rs := [3]) (by kernel_rfl) (by simp) (AllReadyH.cons (o := _) rfl (fun K hK => ?_) AllReadyH.nil)
          go_simp
          refine (MK.out _ (hHeld.toBelow (Below.refl _ _) (fun k hk => hk.elim) (Nat.le_refl _))).mono ?_
          rintro e wa172 ⟨hb3, A2, ca2, l2, Q2, cq2, rfl, hl2, hd2, hfd2⟩
          have hm := Mid.refl wa171.heap.size wa172
          go_wp2_with fail
          refine hK.out _ _ (hHeld.below hb3) (fun hNew => ?_)
          have cY := BY.lt
          replace BY := BY.keep hb3
          have cX := BX.lt
          replace BX := BX.keep hb3
          clear hb3
          clear hHeld hK K
          have hHeld := hNew
          clear hNew
          try simp only [Act.put, PL]
          refine wpAnyH_take (i := 4) (oi := _) (v := ?va173) rfl (by kernel_rfl) (by kernel_rfl) (by kernel_rfl) (fun _ _ _ h => h) (Or.inl ⟨by kernel_rfl, ?hya173⟩) hHeld ?resta173
          case hya173 => (intro w hSw; go_simp; first | done | (with_reducible rfl))
          try simp only [Act.put, PL]
          refine wpAnyH_take (i := 5) (oi := _) (v := ?va174) rfl (by kernel_rfl) (by kernel_rfl) (by kernel_rfl) (fun _ _ _ h => h) (Or.inl ⟨by kernel_rfl, ?hya174⟩) hHeld ?resta174
          case hya174 => (intro w hSw; go_simp; first | done | (with_reducible rfl))
          try simp only [Act.put, PL]
          refine wpAnyH_take (i := 6) (oi := _) (v := ?va175) rfl (by kernel_rfl) (by kernel_rfl) (by kernel_rfl) (fun _ _ _ h => h) (Or.inl ⟨by kernel_rfl, ?hya175⟩) hHeld ?resta175
          case hya175 => (intro w hSw; go_simp; first | done | (with_reducible rfl))
          try simp only [Act.put, PL]
          refine wpAnyH_take (i := 7) (oi := _) (v := ?va176) rfl (by kernel_rfl) (by kernel_rfl) (by kernel_rfl) (fun _ _ _ h => h) (Or.inl ⟨by kernel_rfl, ?hya176⟩) hHeld ?resta176
          case hya176 => (intro w hSw; go_simp; first | done | (with_reducible rfl))
          try simp only [Act.put, PL]
          refine wpAnyH_ready (rs := [10]) (by kernel_rfl) (by simp) (AllReadyH.cons (o := _) rfl (fun K hK => ?_) AllReadyH.nil)
          have n0 := BX.c 0 rfl
          have f0 := BX.f 0 rfl
          have n1 := BX.c 1 rfl
          have f1 := BX.f 1 rfl
          go_simp
          clear n0 f0 n1 f1
          refine hK.out _ _ ((hHeld.set (.inr hX) _).set (.inr hX) _) (fun hNew => ?_)
          clear hHeld hK K
          have hHeld := hNew
          clear hNew
          try simp only [Act.put, PL]
          refine at_anyH (fun v => GB (fun _ => False) V4 v ∧ BK v (wa0.heap.size) [.int .i64 0, .int .i64 0] ∧ BK v (wa161.heap.size) [.slice A2 2 ca2, .slice Q2 1 cq2] ∧ Mid wa171.heap.size wa172 v) ⟨hHeld, ((BY.far (by omega) _ _).far (by omega) _ _), ((BX.set 0 _).set 1 _), ((hm.set (by omega) _).set (by omega) _)⟩ (fun wa177 hS => ?_)
          clear hHeld BY BX hm
          obtain ⟨hHeld, BY, BX, hm⟩ := hS
          refine wpAnyH_ready (rs := [11]) (by kernel_rfl) (by simp) (AllReadyH.cons (o := _) rfl (fun K hK => ?_) AllReadyH.nil)
          have n0 := BY.c 0 rfl
          have f0 := BY.f 0 rfl
          have n1 := BY.c 1 rfl
          have f1 := BY.f 1 rfl
          go_simp
          clear n0 f0 n1 f1
          refine hK.out _ _ ((hHeld.set (.inr hY) _).set (.inr hY) _) (fun hNew => ?_)
          clear hHeld hK K
          have hHeld := hNew
          clear hNew
          try simp only [Act.put, PL]
          refine at_anyH (fun v => GB (fun _ => False) V4 v ∧ BK v (wa0.heap.size) [.int .i64 1, .int .i64 1] ∧ BK v (wa161.heap.size) [.slice A2 2 ca2, .slice Q2 1 cq2] ∧ Mid wa171.heap.size wa172 v) ⟨hHeld, ((BY.set 0 _).set 1 _), ((BX.far (by omega) _ _).far (by omega) _ _), ((hm.set (by omega) _).set (by omega) _)⟩ (fun wa178 hS => ?_)
          clear hHeld BY BX hm
          obtain ⟨hHeld, BY, BX, hm⟩ := hS
          refine wpAnyH_take (i := 12) (oi := _) (v := ?va179) rfl (by kernel_rfl) (by kernel_rfl) (by kernel_rfl) (fun _ _ _ h => h) (Or.inl ⟨by kernel_rfl, ?hya179⟩) hHeld ?resta179
          case hya179 => (intro w hSw; go_simp; first | done | (with_reducible rfl))
          try simp only [Act.put, PL]
          refine wpAnyH_done (by kernel_rfl) ?_ _
          go_wp2_with fail
          go_meet
          exact ⟨_, _, A2, ca2, l2, Q2, cq2, rfl, rfl, rfl, hl2, hd2, (hfd2.mid hm).isCs, (hfd2.mid hm).isQs, BX, BY, hHeld.toBelow hbb (fun k hk => hk.elim) hBV⟩
        · as_aux_lemma =>
         go_simp
         refine hK.out _ _ (hHeld.al _) (fun hNew => ?_)
         have hX : V4.heap.size ≤ wa160.heap.size := hHeld.size
         have dYX := BY.lt
         clear hHeld hK K
         have hHeld := hNew
         clear hNew
         try simp only [Act.put, PL]
         refine at_anyH (fun v => GB (fun _ => False) V4 v ∧ BK v (wa0.heap.size) [.int .i64 0, .int .i64 0] ∧ BK v (wa160.heap.size) [.slice none 0 0, .slice none 0 0]) ⟨hHeld, BY.al _, BK.new _ _ _⟩ (fun wa180 hS => ?_)
         clear hHeld BY
         obtain ⟨hHeld, BY, BX⟩ := hS
         refine wpAnyH_ready (rs := [2]) (by kernel_rfl) (by simp) (AllReadyH.cons (o := _) rfl (fun K hK => ?_) AllReadyH.nil)
         go_simp
         refine (of4_any 1 _).mono ?_
         rintro e wa181 ⟨rfl, hb3⟩
         go_wp2_with fail
         refine hK.out _ _ (hHeld.below hb3) (fun hNew => ?_)
         replace BY := BY.keep hb3
         replace BX := BX.keep hb3
         clear hb3
         clear hHeld hK K
         have hHeld := hNew
         clear hNew
         try simp only [Act.put, PL]
         refine wpAnyH_ready (rs := [3]) (by kernel_rfl) (by simp) (AllReadyH.cons (o := _) rfl (fun K hK => ?_) AllReadyH.nil)
         go_simp
         refine (MK.out _ (hHeld.toBelow (Below.refl _ _) (fun k hk => hk.elim) (Nat.le_refl _))).mono ?_
         rintro e wa182 ⟨hb3, A2, ca2, l2, Q2, cq2, rfl, hl2, hd2, hfd2⟩
         have hm := Mid.refl wa181.heap.size wa182
         go_wp2_with fail
         refine hK.out _ _ (hHeld.below hb3) (fun hNew => ?_)
         have cY := BY.lt
         replace BY := BY.keep hb3
         have cX := BX.lt
         replace BX := BX.keep hb3
         clear hb3
         clear hHeld hK K
         have hHeld := hNew
         clear hNew
         try simp only [Act.put, PL]
         refine wpAnyH_take (i := 4) (oi := _) (v := ?va183) rfl (by kernel_rfl) (by kernel_rfl) (by kernel_rfl) (fun _ _ _ h => h) (Or.inl ⟨by kernel_rfl, ?hya183⟩) hHeld ?resta183
         case hya183 => (intro w hSw; go_simp; first | done | (with_reducible rfl))
         try simp only [Act.put, PL]
         refine wpAnyH_take (i := 5) (oi := _) (v := ?va184) rfl (by kernel_rfl) (by kernel_rfl) (by kernel_rfl) (fun _ _ _ h => h) (Or.inl ⟨by kernel_rfl, ?hya184⟩) hHeld ?resta184
         case hya184 => (intro w hSw; go_simp; first | done | (with_reducible rfl))
         try simp only [Act.put, PL]
         refine wpAnyH_take (i := 6) (oi := _) (v := ?va185) rfl (by kernel_rfl) (by kernel_rfl) (by kernel_rfl) (fun _ _ _ h => h) (Or.inl ⟨by kernel_rfl, ?hya185⟩) hHeld ?resta185
         case hya185 => (intro w hSw; go_simp; first | done | (with_reducible rfl))
         try simp only [Act.put, PL]
         refine wpAnyH_take (i := 7) (oi := _) (v := ?va186) rfl (by kernel_rfl) (by kernel_rfl) (by kernel_rfl) (fun _ _ _ h => h) (Or.inl ⟨by kernel_rfl, ?hya186⟩) hHeld ?resta186
         case hya186 => (intro w hSw; go_simp; first | done | (with_reducible rfl))
         try simp only [Act.put, PL]
         refine wpAnyH_ready (rs := [10]) (by kernel_rfl) (by simp) (AllReadyH.cons (o := _) rfl (fun K hK => ?_) AllReadyH.nil)
         have n0 := BX.c 0 rfl
         have f0 := BX.f 0 rfl
         have n1 := BX.c 1 rfl
         have f1 := BX.f 1 rfl
         go_simp
         clear n0 f0 n1 f1
         refine hK.out _ _ ((hHeld.set (.inr hX) _).set (.inr hX) _) (fun hNew => ?_)
         clear hHeld hK K
         have hHeld := hNew
         clear hNew
         try simp only [Act.put, PL]
         refine at_anyH (fun v => GB (fun _ => False) V4 v ∧ BK v (wa0.heap.size) [.int .i64 0, .int .i64 0] ∧ BK v (wa160.heap.size) [.slice A2 2 ca2, .slice Q2 1 cq2] ∧ Mid wa181.heap.size wa182 v) ⟨hHeld, ((BY.far (by omega) _ _).far (by omega) _ _), ((BX.set 0 _).set 1 _), ((hm.set (by omega) _).set (by omega) _)⟩ (fun wa187 hS => ?_)
         clear hHeld BY BX hm
         obtain ⟨hHeld, BY, BX, hm⟩ := hS
         refine wpAnyH_ready (rs := [11]) (by kernel_rfl) (by simp) (AllReadyH.cons (o := _) rfl (fun K hK => ?_) AllReadyH.nil)
         have n0 := BY.c 0 rfl
         have f0 := BY.f 0 rfl
         have n1 := BY.c 1 rfl
         have f1 := BY.f 1 rfl
         go_simp
         clear n0 f0 n1 f1
         refine hK.out _ _ ((hHeld.set (.inr hY) _).set (.inr hY) _) (fun hNew => ?_)
         clear hHeld hK K
         have hHeld := hNew
         clear hNew
         try simp only [Act.put, PL]
         refine at_anyH (fun v => GB (fun _ => False) V4 v ∧ BK v (wa0.heap.size) [.int .i64 1, .int .i64 1] ∧ BK v (wa160.heap.size) [.slice A2 2 ca2, .slice Q2 1 cq2] ∧ Mid wa181.heap.size wa182 v) ⟨hHeld, ((BY.set 0 _).set 1 _), ((BX.far (by omega) _ _).far (by omega) _ _), ((hm.set (by omega) _).set (by omega) _)⟩ (fun wa188 hS => ?_)
         clear hHeld BY BX hm
         obtain ⟨hHeld, BY, BX, hm⟩ := hS
         refine wpAnyH_take (i := 12) (oi := _) (v := ?va189) rfl (by kernel_rfl) (by kernel_rfl) (by kernel_rfl) (fun _ _ _ h => h) (Or.inl ⟨by kernel_rfl, ?hya189⟩) hHeld ?resta189
         case hya189 => (intro w hSw; go_simp; first | done | (with_reducible rfl))
         try simp only [Act.put, PL]
         refine wpAnyH_done (by kernel_rfl) ?_ _
         go_wp2_with fail
         go_meet
         exact ⟨_, _, A2, ca2, l2, Q2, cq2, rfl, rfl, rfl, hl2, hd2, (hfd2.mid hm).isCs, (hfd2.mid hm).isQs, BX, BY, hHeld.toBelow hbb (fun k hk => hk.elim) hBV⟩
       · as_aux_lemma =>
        go_simp
        refine hK.out _ _ (hHeld.al _) (fun hNew => ?_)
        have hX : V4.heap.size ≤ wa159.heap.size := hHeld.size
        have dYX := BY.lt
        clear hHeld hK K
        have hHeld := hNew
        clear hNew
        try simp only [Act.put, PL]
        refine at_anyH (fun v => GB (fun _ => False) V4 v ∧ BK v (wa0.heap.size) [.int .i64 0, .int .i64 0] ∧ BK v (wa159.heap.size) [.slice none 0 0, .slice none 0 0]) ⟨hHeld, BY.al _, BK.new _ _ _⟩ (fun wa190 hS => ?_)
        clear hHeld BY
        obtain ⟨hHeld, BY, BX⟩ := hS
        refine wpAnyH_ready (rs := [1]) (by kernel_rfl) (by simp) (AllReadyH.cons (o := _) rfl (fun K hK => ?_) AllReadyH.nil)
        go_simp
        refine (of4_any 0 _).mono ?_
        rintro e wa191 ⟨rfl, hb3⟩
        go_wp2_with fail
        refine hK.out _ _ (hHeld.below hb3) (fun hNew => ?_)
        replace BY := BY.keep hb3
        replace BX := BX.keep hb3
        clear hb3
        clear hHeld hK K
        have hHeld := hNew
        clear hNew
        try simp only [Act.put, PL]
        refine wpAnyH_ready (rs := [2]) (by kernel_rfl) (by simp) (AllReadyH.cons (o := _) rfl (fun K hK => ?_) AllReadyH.nil)
        go_simp
        refine (of4_any 1 _).mono ?_
        rintro e wa192 ⟨rfl, hb3⟩
        go_wp2_with fail
        refine hK.out _ _ (hHeld.below hb3) (fun hNew => ?_)
        replace BY := BY.keep hb3
        replace BX := BX.keep hb3
        clear hb3
        clear hHeld hK K
        have hHeld := hNew
        clear hNew
        try simp only [Act.put, PL]
        refine wpAnyH_ready (rs := [3]) (by kernel_rfl) (by simp) (AllReadyH.cons (o := _) rfl (fun K hK => ?_) AllReadyH.nil)
        go_simp
        refine (MK.out _ (hHeld.toBelow (Below.refl _ _) (fun k hk => hk.elim) (Nat.le_refl _))).mono ?_
        rintro e wa193 ⟨hb3, A2, ca2, l2, Q2, cq2, rfl, hl2, hd2, hfd2⟩
        have hm := Mid.refl wa192.heap.size wa193
        go_wp2_with fail
        refine hK.out _ _ (hHeld.below hb3) (fun hNew => ?_)
        have cY := BY.lt
        replace BY := BY.keep hb3
        have cX := BX.lt
        replace BX := BX.keep hb3
        clear hb3
        clear hHeld hK K
        have hHeld := hNew
        clear hNew
        try simp only [Act.put, PL]
        refine wpAnyH_take (i := 4) (oi := _) (v := ?va194) rfl (by kernel_rfl) (by kernel_rfl) (by kernel_rfl) (fun _ _ _ h => h) (Or.inl ⟨by kernel_rfl, ?hya194⟩) hHeld ?resta194
        case hya194 => (intro w hSw; go_simp; first | done | (with_reducible rfl))
        try simp only [Act.put, PL]
        refine wpAnyH_take (i := 5) (oi := _) (v := ?va195) rfl (by kernel_rfl) (by kernel_rfl) (by kernel_rfl) (fun _ _ _ h => h) (Or.inl ⟨by kernel_rfl, ?hya195⟩) hHeld ?resta195
        case hya195 => (intro w hSw; go_simp; first | done | (with_reducible rfl))
        try simp only [Act.put, PL]
        refine wpAnyH_take (i := 6) (oi := _) (v := ?va196) rfl (by kernel_rfl) (by kernel_rfl) (by kernel_rfl) (fun _ _ _ h => h) (Or.inl ⟨by kernel_rfl, ?hya196⟩) hHeld ?resta196
        case hya196 => (intro w hSw; go_simp; first | done | (with_reducible rfl))
        try simp only [Act.put, PL]
        refine wpAnyH_take (i := 7) (oi := _) (v := ?va197) rfl (by kernel_rfl) (by kernel_rfl) (by kernel_rfl) (fun _ _ _ h => h) (Or.inl ⟨by kernel_rfl, ?hya197⟩) hHeld ?resta197
        case hya197 => (intro w hSw; go_simp; first | done | (with_reducible rfl))
        try simp only [Act.put, PL]
        refine wpAnyH_ready (rs := [10]) (by kernel_rfl) (by simp) (AllReadyH.cons (o := _) rfl (fun K hK => ?_) AllReadyH.nil)
        have n0 := BX.c 0 rfl
        have f0 := BX.f 0 rfl
        have n1 := BX.c 1 rfl
        have f1 := BX.f 1 rfl
        go_simp
        clear n0 f0 n1 f1
        refine hK.out _ _ ((hHeld.set (.inr hX) _).set (.inr hX) _) (fun hNew => ?_)
        clear hHeld hK K
        have hHeld := hNew
        clear hNew
        try simp only [Act.put, PL]
        refine at_anyH (fun v => GB (fun _ => False) V4 v ∧ BK v (wa0.heap.size) [.int .i64 0, .int .i64 0] ∧ BK v (wa159.heap.size) [.slice A2 2 ca2, .slice Q2 1 cq2] ∧ Mid wa192.heap.size wa193 v) ⟨hHeld, ((BY.far (by omega) _ _).far (by omega) _ _), ((BX.set 0 _).set 1 _), ((hm.set (by omega) _).set (by omega) _)⟩ (fun wa198 hS => ?_)
        clear hHeld BY BX hm
        obtain ⟨hHeld, BY, BX, hm⟩ := hS
        refine wpAnyH_ready (rs := [11]) (by kernel_rfl) (by simp) (AllReadyH.cons (o := _) rfl (fun K hK => ?_) AllReadyH.nil)
        have n0 := BY.c 0 rfl
        have f0 := BY.f 0 rfl
        have n1 := BY.c 1 rfl
        have f1 := BY.f 1 rfl
        go_simp
        clear n0 f0 n1 f1
        refine hK.out _ _ ((hHeld.set (.inr hY) _).set (.inr hY) _) (fun hNew => ?_)
        clear hHeld hK K
        have hHeld := hNew
        clear hNew
        try simp only [Act.put, PL]
        refine at_anyH (fun v => GB (fun _ => False) V4 v ∧ BK v (wa0.heap.size) [.int .i64 1, .int .i64 1] ∧ BK v (wa159.heap.size) [.slice A2 2 ca2, .slice Q2 1 cq2] ∧ Mid wa192.heap.size wa193 v) ⟨hHeld, ((BY.set 0 _).set 1 _), ((BX.far (by omega) _ _).far (by omega) _ _), ((hm.set (by omega) _).set (by omega) _)⟩ (fun wa199 hS => ?_)
        clear hHeld BY BX hm
        obtain ⟨hHeld, BY, BX, hm⟩ := hS
        refine wpAnyH_take (i := 12) (oi := _) (v := ?va200) rfl (by kernel_rfl) (by kernel_rfl) (by kernel_rfl) (fun _ _ _ h => h) (Or.inl ⟨by kernel_rfl, ?hya200⟩) hHeld ?resta200
        case hya200 => (intro w hSw; go_simp; first | done | (with_reducible rfl))
        try simp only [Act.put, PL]
        refine wpAnyH_done (by kernel_rfl) ?_ _
        go_wp2_with fail
        go_meet
        exact ⟨_, _, A2, ca2, l2, Q2, cq2, rfl, rfl, rfl, hl2, hd2, (hfd2.mid hm).isCs, (hfd2.mid hm).isQs, BX, BY, hHeld.toBelow hbb (fun k hk => hk.elim) hBV⟩
  case rest =>
    obtain ⟨p7, q8, A2, ca2, l2, Q2, cq2, rfl, rfl, rfl, hl2, hd2, hcs, hqs, BP, BY1, hbb⟩ := hcut
    have HD := Lib.hid hd2
    clear hd2
    go_upto_region 5 with fail
    refine at_worldQ (fun v => Below w.heap.size w v ∧ w.heap.size ≤ v.heap.size ∧ BK v p7 [.slice A2 2 ca2, .slice Q2 1 cq2] ∧ BK v q8 [.int .i64 1, .int .i64 1] ∧ IsCs v A2 l2 ∧ IsQs v Q2 [⟨0, 2, 0, 1, 1, 1, 1, 1⟩]) ⟨hbb, hbb.size, BP, BY1, hcs, hqs⟩ (fun V5 hS => ?_)
    clear hbb BP hcs hqs BY1
    obtain ⟨hbb, hBV, BP, BY1, hcs, hqs⟩ := hS
    have MK := Lib.hid (fun v (hv : Below V5.heap.size V5 v) => al4_mark1 A2 ca2 l2 Q2 cq2 v hl2 HD.out (hcs.keep hv) (hqs.keep hv))
    have p0 := BP.c 0 rfl
    have p1 := BP.c 1 rfl
    clear hcs hqs HD hl2
    go_cut [10, 11, 12] (fun x y z v => ∃ (p q : Nat) (A2 : Option Addr) (ca2 : Nat) (l2 : List CkR) (Q2 : Option Addr) (cq2 : Nat), x = .pointer (some ⟨p, 0, none⟩) ∧ y = .pointer (some ⟨q, 0, none⟩) ∧ z = .int .i64 0 ∧ l2.length = 2 ∧ l2.map Ak.dat = [(2, [0, 2], [1]), (2, [0, 1, 2], [3, 1])] ∧ IsCs v A2 l2 ∧ IsQs v Q2 [⟨0, 2, 0, 1, 1, 1, 1, 1⟩, ⟨1, 2, 0, 1, 1, 1, 1, 3⟩] ∧ BK v p [.slice A2 2 ca2, .slice Q2 2 cq2] ∧ BK v q [.int .i64 1, .int .i64 3] ∧ BK v q8 [.int .i64 1, .int .i64 1] ∧ Below w.heap.size w v)
    case first =>
      as_aux_lemma =>
        refine wp_region_held_drew (S := (GB (fun _ => False) V5)) (by kernel_rfl) ((GB.refl _ _).drew) (fun hHeld => ?_)
        refine at_anyH (fun v => GB (fun _ => False) V5 v) hHeld (fun wb0 hNew => ?_)
        clear hHeld
        have hHeld := hNew
        clear hNew
        refine wpAnyH_take (i := 0) (oi := _) (v := ?vb1) rfl (by kernel_rfl) (by kernel_rfl) (by kernel_rfl) (fun _ _ _ h => h) (Or.inl ⟨by kernel_rfl, ?hyb1⟩) hHeld ?restb1
        case hyb1 => (intro w hSw; have kp0 := hSw.cell (fun h => h) p0; have kp1 := hSw.cell (fun h => h) p1; go_simp; first | done | (with_reducible rfl))
        try simp only [Act.put, PL]
        refine wpAnyH_ready (rs := [1, 8, 9]) (by kernel_rfl) (by simp) (AllReadyH.cons (o := _) rfl (fun K hK => ?_) (AllReadyH.cons (o := _) rfl (fun K hK => ?_) (AllReadyH.cons (o := _) rfl (fun K hK => ?_) AllReadyH.nil)))
        · as_aux_lemma =>
         go_simp
         refine (of4_any 0 _).mono ?_
         rintro e wb2 ⟨rfl, hb3⟩
         go_wp2_with fail
         refine hK.out _ _ (hHeld.below hb3) (fun hNew => ?_)
         clear hb3
         clear hHeld hK K
         have hHeld := hNew
         clear hNew
         try simp only [Act.put, PL]
         refine wpAnyH_ready (rs := [2, 8, 9]) (by kernel_rfl) (by simp) (AllReadyH.cons (o := _) rfl (fun K hK => ?_) (AllReadyH.cons (o := _) rfl (fun K hK => ?_) (AllReadyH.cons (o := _) rfl (fun K hK => ?_) AllReadyH.nil)))
         · as_aux_lemma =>
          go_simp
          refine (of4_any 1 _).mono ?_
          rintro e wb3 ⟨rfl, hb3⟩
          go_wp2_with fail
          refine hK.out _ _ (hHeld.below hb3) (fun hNew => ?_)
          clear hb3
          clear hHeld hK K
          have hHeld := hNew
          clear hNew
          try simp only [Act.put, PL]
          refine wpAnyH_ready (rs := [3, 8, 9]) (by kernel_rfl) (by simp) (AllReadyH.cons (o := _) rfl (fun K hK => ?_) (AllReadyH.cons (o := _) rfl (fun K hK => ?_) (AllReadyH.cons (o := _) rfl (fun K hK => ?_) AllReadyH.nil)))
          · as_aux_lemma =>
           go_simp
           refine (MK.out _ (hHeld.toBelow (Below.refl _ _) (fun k hk => hk.elim) (Nat.le_refl _))).mono ?_
           rintro e wb4 ⟨hb3, A2, ca2, l2, Q2, cq2, rfl, hl2, hd2, hfd2⟩
           have hm := Mid.refl wb3.heap.size wb4
           go_wp2_with fail
           refine hK.out _ _ (hHeld.below hb3) (fun hNew => ?_)
           clear hb3
           clear hHeld hK K
           have hHeld := hNew
           clear hNew
           try simp only [Act.put, PL]
           refine wpAnyH_take (i := 4) (oi := _) (v := ?vb5) rfl (by kernel_rfl) (by kernel_rfl) (by kernel_rfl) (fun _ _ _ h => h) (Or.inl ⟨by kernel_rfl, ?hyb5⟩) hHeld ?restb5
           case hyb5 => (intro w hSw; go_simp; first | done | (with_reducible rfl))
           try simp only [Act.put, PL]
           refine wpAnyH_take (i := 5) (oi := _) (v := ?vb6) rfl (by kernel_rfl) (by kernel_rfl) (by kernel_rfl) (fun _ _ _ h => h) (Or.inl ⟨by kernel_rfl, ?hyb6⟩) hHeld ?restb6
           case hyb6 => (intro w hSw; go_simp; first | done | (with_reducible rfl))
           try simp only [Act.put, PL]
           refine wpAnyH_take (i := 6) (oi := _) (v := ?vb7) rfl (by kernel_rfl) (by kernel_rfl) (by kernel_rfl) (fun _ _ _ h => h) (Or.inl ⟨by kernel_rfl, ?hyb7⟩) hHeld ?restb7
           case hyb7 => (intro w hSw; go_simp; first | done | (with_reducible rfl))
           try simp only [Act.put, PL]
           refine wpAnyH_take (i := 7) (oi := _) (v := ?vb8) rfl (by kernel_rfl) (by kernel_rfl) (by kernel_rfl) (fun _ _ _ h => h) (Or.inl ⟨by kernel_rfl, ?hyb8⟩) hHeld ?restb8
           case hyb8 => (intro w hSw; go_simp; first | done | (with_reducible rfl))
           try simp only [Act.put, PL]
           refine wpAnyH_ready (rs := [8, 9]) (by kernel_rfl) (by simp) (AllReadyH.cons (o := _) rfl (fun K hK => ?_) (AllReadyH.cons (o := _) rfl (fun K hK => ?_) AllReadyH.nil))
           · as_aux_lemma =>
            go_simp
            refine hK.out _ _ (hHeld.al _) (fun hNew => ?_)
            have hX : V5.heap.size ≤ wb4.heap.size := hHeld.size
            clear hHeld hK K
            have hHeld := hNew
            clear hNew
            try simp only [Act.put, PL]
            have gXhm := hm.size
            refine at_anyH (fun v => GB (fun _ => False) V5 v ∧ BK v (wb4.heap.size) [.slice none 0 0, .slice none 0 0] ∧ Mid wb3.heap.size wb4 v) ⟨hHeld, BK.new _ _ _, hm.al _⟩ (fun wb9 hS => ?_)
            clear hHeld hm
            obtain ⟨hHeld, BX, hm⟩ := hS
            refine wpAnyH_ready (rs := [9]) (by kernel_rfl) (by simp) (AllReadyH.cons (o := _) rfl (fun K hK => ?_) AllReadyH.nil)
            go_simp
            refine hK.out _ _ (hHeld.al _) (fun hNew => ?_)
            have hY : V5.heap.size ≤ wb9.heap.size := hHeld.size
            have dXY := BX.lt
            clear hHeld hK K
            have hHeld := hNew
            clear hNew
            try simp only [Act.put, PL]
            have gYhm := hm.size
            refine at_anyH (fun v => GB (fun _ => False) V5 v ∧ BK v (wb4.heap.size) [.slice none 0 0, .slice none 0 0] ∧ BK v (wb9.heap.size) [.int .i64 0, .int .i64 0] ∧ Mid wb3.heap.size wb4 v) ⟨hHeld, BX.al _, BK.new _ _ _, hm.al _⟩ (fun wb10 hS => ?_)
            clear hHeld BX hm
            obtain ⟨hHeld, BX, BY, hm⟩ := hS
            refine wpAnyH_ready (rs := [10]) (by kernel_rfl) (by simp) (AllReadyH.cons (o := _) rfl (fun K hK => ?_) AllReadyH.nil)
            have n0 := BX.c 0 rfl
            have f0 := BX.f 0 rfl
            have n1 := BX.c 1 rfl
            have f1 := BX.f 1 rfl
            go_simp
            clear n0 f0 n1 f1
            refine hK.out _ _ ((hHeld.set (.inr hX) _).set (.inr hX) _) (fun hNew => ?_)
            clear hHeld hK K
            have hHeld := hNew
            clear hNew
            try simp only [Act.put, PL]
            refine at_anyH (fun v => GB (fun _ => False) V5 v ∧ BK v (wb4.heap.size) [.slice A2 2 ca2, .slice Q2 2 cq2] ∧ BK v (wb9.heap.size) [.int .i64 0, .int .i64 0] ∧ Mid wb3.heap.size wb4 v) ⟨hHeld, ((BX.set 0 _).set 1 _), ((BY.far (by omega) _ _).far (by omega) _ _), ((hm.set (by omega) _).set (by omega) _)⟩ (fun wb11 hS => ?_)
            clear hHeld BX BY hm
            obtain ⟨hHeld, BX, BY, hm⟩ := hS
            refine wpAnyH_ready (rs := [11]) (by kernel_rfl) (by simp) (AllReadyH.cons (o := _) rfl (fun K hK => ?_) AllReadyH.nil)
            have n0 := BY.c 0 rfl
            have f0 := BY.f 0 rfl
            have n1 := BY.c 1 rfl
            have f1 := BY.f 1 rfl
            go_simp
            clear n0 f0 n1 f1
            refine hK.out _ _ ((hHeld.set (.inr hY) _).set (.inr hY) _) (fun hNew => ?_)
            clear hHeld hK K
            have hHeld := hNew
            clear hNew
            try simp only [Act.put, PL]
            refine at_anyH (fun v => GB (fun _ => False) V5 v ∧ BK v (wb4.heap.size) [.slice A2 2 ca2, .slice Q2 2 cq2] ∧ BK v (wb9.heap.size) [.int .i64 1, .int .i64 3] ∧ Mid wb3.heap.size wb4 v) ⟨hHeld, ((BX.far (by omega) _ _).far (by omega) _ _), ((BY.set 0 _).set 1 _), ((hm.set (by omega) _).set (by omega) _)⟩ (fun wb12 hS => ?_)
            clear hHeld BX BY hm
            obtain ⟨hHeld, BX, BY, hm⟩ := hS
            refine wpAnyH_take (i := 12) (oi := _) (v := ?vb13) rfl (by kernel_rfl) (by kernel_rfl) (by kernel_rfl) (fun _ _ _ h => h) (Or.inl ⟨by kernel_rfl, ?hyb13⟩) hHeld ?restb13
            case hyb13 => (intro w hSw; go_simp; first | done | (with_reducible rfl))
            try simp only [Act.put, PL]
            refine wpAnyH_done (by kernel_rfl) ?_ _
            go_wp2_with fail
            go_meet
            exact ⟨_, _, A2, ca2, l2, Q2, cq2, rfl, rfl, rfl, hl2, hd2, (hfd2.mid hm).isCs, (hfd2.mid hm).isQs, BX, BY, BY1.gb hHeld (fun h => h), hHeld.toBelow hbb (fun k hk => hk.elim) hBV⟩
           · as_aux_lemma =>
            go_simp
            refine hK.out _ _ (hHeld.al _) (fun hNew => ?_)
            have hY : V5.heap.size ≤ wb4.heap.size := hHeld.size
            clear hHeld hK K
            have hHeld := hNew
            clear hNew
            try simp only [Act.put, PL]
            have gYhm := hm.size
            refine at_anyH (fun v => GB (fun _ => False) V5 v ∧ BK v (wb4.heap.size) [.int .i64 0, .int .i64 0] ∧ Mid wb3.heap.size wb4 v) ⟨hHeld, BK.new _ _ _, hm.al _⟩ (fun wb14 hS => ?_)
            clear hHeld hm
            obtain ⟨hHeld, BY, hm⟩ := hS
            refine wpAnyH_ready (rs := [8]) (by kernel_rfl) (by simp) (AllReadyH.cons (o := _) rfl (fun K hK => ?_) AllReadyH.nil)
            go_simp
            refine hK.out _ _ (hHeld.al _) (fun hNew => ?_)
            have hX : V5.heap.size ≤ wb14.heap.size := hHeld.size
            have dYX := BY.lt
            clear hHeld hK K
            have hHeld := hNew
            clear hNew
            try simp only [Act.put, PL]
            have gXhm := hm.size
            refine at_anyH (fun v => GB (fun _ => False) V5 v ∧ BK v (wb4.heap.size) [.int .i64 0, .int .i64 0] ∧ BK v (wb14.heap.size) [.slice none 0 0, .slice none 0 0] ∧ Mid wb3.heap.size wb4 v) ⟨hHeld, BY.al _, BK.new _ _ _, hm.al _⟩ (fun wb15 hS => ?_)
            clear hHeld BY hm
            obtain ⟨hHeld, BY, BX, hm⟩ := hS
            refine wpAnyH_ready (rs := [10]) (by kernel_rfl) (by simp) (AllReadyH.cons (o := _) rfl (fun K hK => ?_) AllReadyH.nil)
            have n0 := BX.c 0 rfl
            have f0 := BX.f 0 rfl
            have n1 := BX.c 1 rfl
            have f1 := BX.f 1 rfl
            go_simp
            clear n0 f0 n1 f1
            refine hK.out _ _ ((hHeld.set (.inr hX) _).set (.inr hX) _) (fun hNew => ?_)
            clear hHeld hK K
            have hHeld := hNew
            clear hNew
            try simp only [Act.put, PL]
            refine at_anyH (fun v => GB (fun _ => False) V5 v ∧ BK v (wb4.heap.size) [.int .i64 0, .int .i64 0] ∧ BK v (wb14.heap.size) [.slice A2 2 ca2, .slice Q2 2 cq2] ∧ Mid wb3.heap.size wb4 v) ⟨hHeld, ((BY.far (by omega) _ _).far (by omega) _ _), ((BX.set 0 _).set 1 _), ((hm.set (by omega) _).set (by omega) _)⟩ (fun wb16 hS => ?_)
            clear hHeld BY BX hm
            obtain ⟨hHeld, BY, BX, hm⟩ := hS
            refine wpAnyH_ready (rs := [11]) (by kernel_rfl) (by simp) (AllReadyH.cons (o := _) rfl (fun K hK => ?_) AllReadyH.nil)
            have n0 := BY.c 0 rfl
            have f0 := BY.f 0 rfl
            have n1 := BY.c 1 rfl
            have f1 := BY.f 1 rfl
            go_simp
            clear n0 f0 n1 f1
            refine hK.out _ _ ((hHeld.set (.inr hY) _).set (.inr hY) _) (fun hNew => ?_)
            clear hHeld hK K
            have hHeld := hNew
            clear hNew
            try simp only [Act.put, PL]
            refine at_anyH (fun v => GB (fun _ => False) V5 v ∧ BK v (wb4.heap.size) [.int .i64 1, .int .i64 3] ∧ BK v (wb14.heap.size) [.slice A2 2 ca2, .slice Q2 2 cq2] ∧ Mid wb3.heap.size wb4 v) ⟨hHeld, ((BY.set 0 _).set 1 _), ((BX.far (by omega) _ _).far (by omega) _ _), ((hm.set (by omega) _).set (by omega) _)⟩ (fun wb17 hS => ?_)
            clear hHeld BY BX hm
            obtain ⟨hHeld, BY, BX, hm⟩ := hS
            refine wpAnyH_take (i := 12) (oi := _) (v := ?vb18) rfl (by kernel_rfl) (by kernel_rfl) (by kernel_rfl) (fun _ _ _ h => h) (Or.inl ⟨by kernel_rfl, ?hyb18⟩) hHeld ?restb18
            case hyb18 => (intro w hSw; go_simp; first | done | (with_reducible rfl))
            try simp only [Act.put, PL]
            refine wpAnyH_done (by kernel_rfl) ?_ _
            go_wp2_with fail
            go_meet
            exact ⟨_, _, A2, ca2, l2, Q2, cq2, rfl, rfl, rfl, hl2, hd2, (hfd2.mid hm).isCs, (hfd2.mid hm).isQs, BX, BY, BY1.gb hHeld (fun h => h), hHeld.toBelow hbb (fun k hk => hk.elim) hBV⟩
          · as_aux_lemma =>
           go_simp
           refine hK.out _ _ (hHeld.al _) (fun hNew => ?_)
           have hX : V5.heap.size ≤ wb3.heap.size := hHeld.size
           clear hHeld hK K
           have hHeld := hNew
           clear hNew
           try simp only [Act.put, PL]
           refine at_anyH (fun v => GB (fun _ => False) V5 v ∧ BK v (wb3.heap.size) [.slice none 0 0, .slice none 0 0]) ⟨hHeld, BK.new _ _ _⟩ (fun wb19 hS => ?_)
           clear hHeld
           obtain ⟨hHeld, BX⟩ := hS
           refine wpAnyH_ready (rs := [3, 9]) (by kernel_rfl) (by simp) (AllReadyH.cons (o := _) rfl (fun K hK => ?_) (AllReadyH.cons (o := _) rfl (fun K hK => ?_) AllReadyH.nil))
           · as_aux_lemma =>
            go_simp
            refine (MK.out _ (hHeld.toBelow (Below.refl _ _) (fun k hk => hk.elim) (Nat.le_refl _))).mono ?_
            rintro e wb20 ⟨hb3, A2, ca2, l2, Q2, cq2, rfl, hl2, hd2, hfd2⟩
            have hm := Mid.refl wb19.heap.size wb20
            go_wp2_with fail
            refine hK.out _ _ (hHeld.below hb3) (fun hNew => ?_)
            have cX := BX.lt
            replace BX := BX.keep hb3
            clear hb3
            clear hHeld hK K
            have hHeld := hNew
            clear hNew
            try simp only [Act.put, PL]
            refine wpAnyH_take (i := 4) (oi := _) (v := ?vb21) rfl (by kernel_rfl) (by kernel_rfl) (by kernel_rfl) (fun _ _ _ h => h) (Or.inl ⟨by kernel_rfl, ?hyb21⟩) hHeld ?restb21
            case hyb21 => (intro w hSw; go_simp; first | done | (with_reducible rfl))
            try simp only [Act.put, PL]
            refine wpAnyH_take (i := 5) (oi := _) (v := ?vb22) rfl (by kernel_rfl) (by kernel_rfl) (by kernel_rfl) (fun _ _ _ h => h) (Or.inl ⟨by kernel_rfl, ?hyb22⟩) hHeld ?restb22
            case hyb22 => (intro w hSw; go_simp; first | done | (with_reducible rfl))
            try simp only [Act.put, PL]
            refine wpAnyH_take (i := 6) (oi := _) (v := ?vb23) rfl (by kernel_rfl) (by kernel_rfl) (by kernel_rfl) (fun _ _ _ h => h) (Or.inl ⟨by kernel_rfl, ?hyb23⟩) hHeld ?restb23
            case hyb23 => (intro w hSw; go_simp; first | done | (with_reducible rfl))
            try simp only [Act.put, PL]
            refine wpAnyH_take (i := 7) (oi := _) (v := ?vb24) rfl (by kernel_rfl) (by kernel_rfl) (by kernel_rfl) (fun _ _ _ h => h) (Or.inl ⟨by kernel_rfl, ?hyb24⟩) hHeld ?restb24
            case hyb24 => (intro w hSw; go_simp; first | done | (with_reducible rfl))
            try simp only [Act.put, PL]
            refine wpAnyH_ready (rs := [9]) (by kernel_rfl) (by simp) (AllReadyH.cons (o := _) rfl (fun K hK => ?_) AllReadyH.nil)
            go_simp
            refine hK.out _ _ (hHeld.al _) (fun hNew => ?_)
            have hY : V5.heap.size ≤ wb20.heap.size := hHeld.size
            have dXY := BX.lt
            clear hHeld hK K
            have hHeld := hNew
            clear hNew
            try simp only [Act.put, PL]
            have gYhm := hm.size
            refine at_anyH (fun v => GB (fun _ => False) V5 v ∧ BK v (wb3.heap.size) [.slice none 0 0, .slice none 0 0] ∧ BK v (wb20.heap.size) [.int .i64 0, .int .i64 0] ∧ Mid wb19.heap.size wb20 v) ⟨hHeld, BX.al _, BK.new _ _ _, hm.al _⟩ (fun wb25 hS => ?_)
            clear hHeld BX hm
            obtain ⟨hHeld, BX, BY, hm⟩ := hS
            refine wpAnyH_ready (rs := [10]) (by kernel_rfl) (by simp) (AllReadyH.cons (o := _) rfl (fun K hK => ?_) AllReadyH.nil)
            have n0 := BX.c 0 rfl
            have f0 := BX.f 0 rfl
            have n1 := BX.c 1 rfl
            have f1 := BX.f 1 rfl
            go_simp
            clear n0 f0 n1 f1
            refine hK.out _ _ ((hHeld.set (.inr hX) _).set (.inr hX) _) (fun hNew => ?_)
            clear hHeld hK K
            have hHeld := hNew
            clear hNew
            try simp only [Act.put, PL]
            refine at_anyH (fun v => GB (fun _ => False) V5 v ∧ BK v (wb3.heap.size) [.slice A2 2 ca2, .slice Q2 2 cq2] ∧ BK v (wb20.heap.size) [.int .i64 0, .int .i64 0] ∧ Mid wb19.heap.size wb20 v) ⟨hHeld, ((BX.set 0 _).set 1 _), ((BY.far (by omega) _ _).far (by omega) _ _), ((hm.set (by omega) _).set (by omega) _)⟩ (fun wb26 hS => ?_)
            clear hHeld BX BY hm
            obtain ⟨hHeld, BX, BY, hm⟩ := hS
            refine wpAnyH_ready (rs := [11]) (by kernel_rfl) (by simp) (AllReadyH.cons (o := _) rfl (fun K hK => ?_) AllReadyH.nil)
            have n0 := BY.c 0 rfl
            have f0 := BY.f 0 rfl
            have n1 := BY.c 1 rfl
            have f1 := BY.f 1 rfl
            go_simp
            clear n0 f0 n1 f1
            refine hK.out _ _ ((hHeld.set (.inr hY) _).set (.inr hY) _) (fun hNew => ?_)
            clear hHeld hK K
            have hHeld := hNew
            clear hNew
            try simp only [Act.put, PL]
            refine at_anyH (fun v => GB (fun _ => False) V5 v ∧ BK v (wb3.heap.size) [.slice A2 2 ca2, .slice Q2 2 cq2] ∧ BK v (wb20.heap.size) [.int .i64 1, .int .i64 3] ∧ Mid wb19.heap.size wb20 v) ⟨hHeld, ((BX.far (by omega) _ _).far (by omega) _ _), ((BY.set 0 _).set 1 _), ((hm.set (by omega) _).set (by omega) _)⟩ (fun wb27 hS => ?_)
            clear hHeld BX BY hm
            obtain ⟨hHeld, BX, BY, hm⟩ := hS
            refine wpAnyH_take (i := 12) (oi := _) (v := ?vb28) rfl (by kernel_rfl) (by kernel_rfl) (by kernel_rfl) (fun _ _ _ h => h) (Or.inl ⟨by kernel_rfl, ?hyb28⟩) hHeld ?restb28
            case hyb28 => (intro w hSw; go_simp; first | done | (with_reducible rfl))
            try simp only [Act.put, PL]
            refine wpAnyH_done (by kernel_rfl) ?_ _
            go_wp2_with fail
            go_meet
            exact ⟨_, _, A2, ca2, l2, Q2, cq2, rfl, rfl, rfl, hl2, hd2, (hfd2.mid hm).isCs, (hfd2.mid hm).isQs, BX, BY, BY1.gb hHeld (fun h => h), hHeld.toBelow hbb (fun k hk => hk.elim) hBV⟩
           · as_aux_lemma =>
            go_simp
            refine hK.out _ _ (hHeld.al _) (fun hNew => ?_)
            have hY : V5.heap.size ≤ wb19.heap.size := hHeld.size
            have dXY := BX.lt
            clear hHeld hK K
            have hHeld := hNew
            clear hNew
            try simp only [Act.put, PL]
            refine at_anyH (fun v => GB (fun _ => False) V5 v ∧ BK v (wb3.heap.size) [.slice none 0 0, .slice none 0 0] ∧ BK v (wb19.heap.size) [.int .i64 0, .int .i64 0]) ⟨hHeld, BX.al _, BK.new _ _ _⟩ (fun wb29 hS => ?_)
            clear hHeld BX
            obtain ⟨hHeld, BX, BY⟩ := hS
            refine wpAnyH_ready (rs := [3]) (by kernel_rfl) (by simp) (AllReadyH.cons (o := _) rfl (fun K hK => ?_) AllReadyH.nil)
            go_simp
            refine (MK.out _ (hHeld.toBelow (Below.refl _ _) (fun k hk => hk.elim) (Nat.le_refl _))).mono ?_
            rintro e wb30 ⟨hb3, A2, ca2, l2, Q2, cq2, rfl, hl2, hd2, hfd2⟩
            have hm := Mid.refl wb29.heap.size wb30
            go_wp2_with fail
            refine hK.out _ _ (hHeld.below hb3) (fun hNew => ?_)
            have cX := BX.lt
            replace BX := BX.keep hb3
            have cY := BY.lt
            replace BY := BY.keep hb3
            clear hb3
            clear hHeld hK K
            have hHeld := hNew
            clear hNew
            try simp only [Act.put, PL]
            refine wpAnyH_take (i := 4) (oi := _) (v := ?vb31) rfl (by kernel_rfl) (by kernel_rfl) (by kernel_rfl) (fun _ _ _ h => h) (Or.inl ⟨by kernel_rfl, ?hyb31⟩) hHeld ?restb31
            case hyb31 => (intro w hSw; go_simp; first | done | (with_reducible rfl))
            try simp only [Act.put, PL]
            refine wpAnyH_take (i := 5) (oi := _) (v := ?vb32) rfl (by kernel_rfl) (by kernel_rfl) (by kernel_rfl) (fun _ _ _ h => h) (Or.inl ⟨by kernel_rfl, ?hyb32⟩) hHeld ?restb32
            case hyb32 => (intro w hSw; go_simp; first | done | (with_reducible rfl))
            try simp only [Act.put, PL]
            refine wpAnyH_take (i := 6) (oi := _) (v := ?vb33) rfl (by kernel_rfl) (by kernel_rfl) (by kernel_rfl) (fun _ _ _ h => h) (Or.inl ⟨by kernel_rfl, ?hyb33⟩) hHeld ?restb33
            case hyb33 => (intro w hSw; go_simp; first | done | (with_reducible rfl))
            try simp only [Act.put, PL]
            refine wpAnyH_take (i := 7) (oi := _) (v := ?vb34) rfl (by kernel_rfl) (by kernel_rfl) (by kernel_rfl) (fun _ _ _ h => h) (Or.inl ⟨by kernel_rfl, ?hyb34⟩) hHeld ?restb34
            case hyb34 => (intro w hSw; go_simp; first | done | (with_reducible rfl))
            try simp only [Act.put, PL]
            refine wpAnyH_ready (rs := [10]) (by kernel_rfl) (by simp) (AllReadyH.cons (o := _) rfl (fun K hK => ?_) AllReadyH.nil)
            have n0 := BX.c 0 rfl
            have f0 := BX.f 0 rfl
            have n1 := BX.c 1 rfl
            have f1 := BX.f 1 rfl
            go_simp
            clear n0 f0 n1 f1
            refine hK.out _ _ ((hHeld.set (.inr hX) _).set (.inr hX) _) (fun hNew => ?_)
            clear hHeld hK K
            have hHeld := hNew
            clear hNew
            try simp only [Act.put, PL]
            refine at_anyH (fun v => GB (fun _ => False) V5 v ∧ BK v (wb3.heap.size) [.slice A2 2 ca2, .slice Q2 2 cq2] ∧ BK v (wb19.heap.size) [.int .i64 0, .int .i64 0] ∧ Mid wb29.heap.size wb30 v) ⟨hHeld, ((BX.set 0 _).set 1 _), ((BY.far (by omega) _ _).far (by omega) _ _), ((hm.set (by omega) _).set (by omega) _)⟩ (fun wb35 hS => ?_)
            clear hHeld BX BY hm
            obtain ⟨hHeld, BX, BY, hm⟩ := hS
            refine wpAnyH_ready (rs := [11]) (by kernel_rfl) (by simp) (AllReadyH.cons (o := _) rfl (fun K hK => ?_) AllReadyH.nil)
            have n0 := BY.c 0 rfl
            have f0 := BY.f 0 rfl
            have n1 := BY.c 1 rfl
            have f1 := BY.f 1 rfl
            go_simp
            clear n0 f0 n1 f1
            refine hK.out _ _ ((hHeld.set (.inr hY) _).set (.inr hY) _) (fun hNew => ?_)
            clear hHeld hK K
            have hHeld := hNew
            clear hNew
            try simp only [Act.put, PL]
            refine at_anyH (fun v => GB (fun _ => False) V5 v ∧ BK v (wb3.heap.size) [.slice A2 2 ca2, .slice Q2 2 cq2] ∧ BK v (wb19.heap.size) [.int .i64 1, .int .i64 3] ∧ Mid wb29.heap.size wb30 v) ⟨hHeld, ((BX.far (by omega) _ _).far (by omega) _ _), ((BY.set 0 _).set 1 _), ((hm.set (by omega) _).set (by omega) _)⟩ (fun wb36 hS => ?_)
            clear hHeld BX BY hm
            obtain ⟨hHeld, BX, BY, hm⟩ := hS
            refine wpAnyH_take (i := 12) (oi := _) (v := ?vb37) rfl (by kernel_rfl) (by kernel_rfl) (by kernel_rfl) (fun _ _ _ h => h) (Or.inl ⟨by kernel_rfl, ?hyb37⟩) hHeld ?restb37
            case hyb37 => (intro w hSw; go_simp; first | done | (with_reducible rfl))
            try simp only [Act.put, PL]
            refine wpAnyH_done (by kernel_rfl) ?_ _
            go_wp2_with fail
            go_meet
            exact ⟨_, _, A2, ca2, l2, Q2, cq2, rfl, rfl, rfl, hl2, hd2, (hfd2.mid hm).isCs, (hfd2.mid hm).isQs, BX, BY, BY1.gb hHeld (fun h => h), hHeld.toBelow hbb (fun k hk => hk.elim) hBV⟩
          · as_aux_lemma =>
           go_simp
           refine hK.out _ _ (hHeld.al _) (fun hNew => ?_)
           have hY : V5.heap.size ≤ wb3.heap.size := hHeld.size
           clear hHeld hK K
           have hHeld := hNew
           clear hNew
           try simp only [Act.put, PL]
           refine at_anyH (fun v => GB (fun _ => False) V5 v ∧ BK v (wb3.heap.size) [.int .i64 0, .int .i64 0]) ⟨hHeld, BK.new _ _ _⟩ (fun wb38 hS => ?_)
           clear hHeld
           obtain ⟨hHeld, BY⟩ := hS
           refine wpAnyH_ready (rs := [3, 8]) (by kernel_rfl) (by simp) (AllReadyH.cons (o := _) rfl (fun K hK => ?_) (AllReadyH.cons (o := _) rfl (fun K hK => ?_) AllReadyH.nil))
           · as_aux_lemma =>
            go_simp
            refine (MK.out _ (hHeld.toBelow (Below.refl _ _) (fun k hk => hk.elim) (Nat.le_refl _))).mono ?_
            rintro e wb39 ⟨hb3, A2, ca2, l2, Q2, cq2, rfl, hl2, hd2, hfd2⟩
            have hm := Mid.refl wb38.heap.size wb39
            go_wp2_with fail
            refine hK.out _ _ (hHeld.below hb3) (fun hNew => ?_)
            have cY := BY.lt
            replace BY := BY.keep hb3
            clear hb3
            clear hHeld hK K
            have hHeld := hNew
            clear hNew
            try simp only [Act.put, PL]
            refine wpAnyH_take (i := 4) (oi := _) (v := ?vb40) rfl (by kernel_rfl) (by kernel_rfl) (by kernel_rfl) (fun _ _ _ h => h) (Or.inl ⟨by kernel_rfl, ?hyb40⟩) hHeld ?restb40
            case hyb40 => (intro w hSw; go_simp; first | done | (with_reducible rfl))
            try simp only [Act.put, PL]
            refine wpAnyH_take (i := 5) (oi := _) (v := ?vb41) rfl (by kernel_rfl) (by kernel_rfl) (by kernel_rfl) (fun _ _ _ h => h) (Or.inl ⟨by kernel_rfl, ?hyb41⟩) hHeld ?restb41
            case hyb41 => (intro w hSw; go_simp; first | done | (with_reducible rfl))
            try simp only [Act.put, PL]
            refine wpAnyH_take (i := 6) (oi := _) (v := ?vb42) rfl (by kernel_rfl) (by kernel_rfl) (by kernel_rfl) (fun _ _ _ h => h) (Or.inl ⟨by kernel_rfl, ?hyb42⟩) hHeld ?restb42
            case hyb42 => (intro w hSw; go_simp; first | done | (with_reducible rfl))
            try simp only [Act.put, PL]
            refine wpAnyH_take (i := 7) (oi := _) (v := ?vb43) rfl (by kernel_rfl) (by kernel_rfl) (by kernel_rfl) (fun _ _ _ h => h) (Or.inl ⟨by kernel_rfl, ?hyb43⟩) hHeld ?restb43
            case hyb43 => (intro w hSw; go_simp; first | done | (with_reducible rfl))
            try simp only [Act.put, PL]
            refine wpAnyH_ready (rs := [8]) (by kernel_rfl) (by simp) (AllReadyH.cons (o := _) rfl (fun K hK => ?_) AllReadyH.nil)
            go_simp
            refine hK.out _ _ (hHeld.al _) (fun hNew => ?_)
            have hX : V5.heap.size ≤ wb39.heap.size := hHeld.size
            have dYX := BY.lt
            clear hHeld hK K
            have hHeld := hNew
            clear hNew
            try simp only [Act.put, PL]
            have gXhm := hm.size
            refine at_anyH (fun v => GB (fun _ => False) V5 v ∧ BK v (wb3.heap.size) [.int .i64 0, .int .i64 0] ∧ BK v (wb39.heap.size) [.slice none 0 0, .slice none 0 0] ∧ Mid wb38.heap.size wb39 v) ⟨hHeld, BY.al _, BK.new _ _ _, hm.al _⟩ (fun wb44 hS => ?_)
            clear hHeld BY hm
            obtain ⟨hHeld, BY, BX, hm⟩ := hS
            refine wpAnyH_ready (rs := [10]) (by kernel_rfl) (by simp) (AllReadyH.cons (o := _) rfl (fun K hK => ?_) AllReadyH.nil)
            have n0 := BX.c 0 rfl
            have f0 := BX.f 0 rfl
            have n1 := BX.c 1 rfl
            have f1 := BX.f 1 rfl
            go_simp
            clear n0 f0 n1 f1
            refine hK.out _ _ ((hHeld.set (.inr hX) _).set (.inr hX) _) (fun hNew => ?_)
            clear hHeld hK K
            have hHeld := hNew
            clear hNew
            try simp only [Act.put, PL]
            refine at_anyH (fun v => GB (fun _ => False) V5 v ∧ BK v (wb3.heap.size) [.int .i64 0, .int .i64 0] ∧ BK v (wb39.heap.size) [.slice A2 2 ca2, .slice Q2 2 cq2] ∧ Mid wb38.heap.size wb39 v) ⟨hHeld, ((BY.far (by omega) _ _).far (by omega) _ _), ((BX.set 0 _).set 1 _), ((hm.set (by omega) _).set (by omega) _)⟩ (fun wb45 hS => ?_)
            clear hHeld BY BX hm
            obtain ⟨hHeld, BY, BX, hm⟩ := hS
            refine wpAnyH_ready (rs := [11]) (by kernel_rfl) (by simp) (AllReadyH.cons (o := _) rfl (fun K hK => ?_) AllReadyH.nil)
            have n0 := BY.c 0 rfl
            have f0 := BY.f 0 rfl
            have n1 := BY.c 1 rfl
            have f1 := BY.f 1 rfl
            go_simp
            clear n0 f0 n1 f1
            refine hK.out _ _ ((hHeld.set (.inr hY) _).set (.inr hY) _) (fun hNew => ?_)
            clear hHeld hK K
            have hHeld := hNew
            clear hNew
            try simp only [Act.put, PL]
            refine at_anyH (fun v => GB (fun _ => False) V5 v ∧ BK v (wb3.heap.size) [.int .i64 1, .int .i64 3] ∧ BK v (wb39.heap.size) [.slice A2 2 ca2, .slice Q2 2 cq2] ∧ Mid wb38.heap.size wb39 v) ⟨hHeld, ((BY.set 0 _).set 1 _), ((BX.far (by omega) _ _).far (by omega) _ _), ((hm.set (by omega) _).set (by omega) _)⟩ (fun wb46 hS => ?_)
            clear hHeld BY BX hm
            obtain ⟨hHeld, BY, BX, hm⟩ := hS
            refine wpAnyH_take (i := 12) (oi := _) (v := ?vb47) rfl (by kernel_rfl) (by kernel_rfl) (by kernel_rfl) (fun _ _ _ h => h) (Or.inl ⟨by kernel_rfl, ?hyb47⟩) hHeld ?restb47
            case hyb47 => (intro w hSw; go_simp; first | done | (with_reducible rfl))
            try simp only [Act.put, PL]
            refine wpAnyH_done (by kernel_rfl) ?_ _
            go_wp2_with fail
            go_meet
            exact ⟨_, _, A2, ca2, l2, Q2, cq2, rfl, rfl, rfl, hl2, hd2, (hfd2.mid hm).isCs, (hfd2.mid hm).isQs, BX, BY, BY1.gb hHeld (fun h => h), hHeld.toBelow hbb (fun k hk => hk.elim) hBV⟩
           · as_aux_lemma =>
            go_simp
            refine hK.out _ _ (hHeld.al _) (fun hNew => ?_)
            have hX : V5.heap.size ≤ wb38.heap.size := hHeld.size
            have dYX := BY.lt
            clear hHeld hK K
            have hHeld := hNew
            clear hNew
            try simp only [Act.put, PL]
            refine at_anyH (fun v => GB (fun _ => False) V5 v ∧ BK v (wb3.heap.size) [.int .i64 0, .int .i64 0] ∧ BK v (wb38.heap.size) [.slice none 0 0, .slice none 0 0]) ⟨hHeld, BY.al _, BK.new _ _ _⟩ (fun wb48 hS => ?_)
            clear hHeld BY
            obtain ⟨hHeld, BY, BX⟩ := hS
            refine wpAnyH_ready (rs := [3]) (by kernel_rfl) (by simp) (AllReadyH.cons (o := _) rfl (fun K hK => ?_) AllReadyH.nil)
            go_simp
            refine (MK.out _ (hHeld.toBelow (Below.refl _ _) (fun k hk => hk.elim) (Nat.le_refl _))).mono ?_
            rintro e wb49 ⟨hb3, A2, ca2, l2, Q2, cq2, rfl, hl2, hd2, hfd2⟩
            have hm := Mid.refl wb48.heap.size wb49
            go_wp2_with fail
            refine hK.out _ _ (hHeld.below hb3) (fun hNew => ?_)
            have cY := BY.lt
            replace BY := BY.keep hb3
            have cX := BX.lt
            replace BX := BX.keep hb3
            clear hb3
            clear hHeld hK K
            have hHeld := hNew
            clear hNew
            try simp only [Act.put, PL]
            refine wpAnyH_take (i := 4) (oi := _) (v := ?vb50) rfl (by kernel_rfl) (by kernel_rfl) (by kernel_rfl) (fun _ _ _ h => h) (Or.inl ⟨by kernel_rfl, ?hyb50⟩) hHeld ?restb50
            case hyb50 => (intro w hSw; go_simp; first | done | (with_reducible rfl))
            try simp only [Act.put, PL]
            refine wpAnyH_take (i := 5) (oi := _) (v := ?vb51) rfl (by kernel_rfl) (by kernel_rfl) (by kernel_rfl) (fun _ _ _ h => h) (Or.inl ⟨by kernel_rfl, ?hyb51⟩) hHeld ?restb51
            case hyb51 => (intro w hSw; go_simp; first | done | (with_reducible rfl))
            try simp only [Act.put, PL]
            refine wpAnyH_take (i := 6) (oi := _) (v := ?vb52) rfl (by kernel_rfl) (by kernel_rfl) (by kernel_rfl) (fun _ _ _ h => h) (Or.inl ⟨by kernel_rfl, ?hyb52⟩) hHeld ?restb52
            case hyb52 => (intro w hSw; go_simp; first | done | (with_reducible rfl))
            try simp only [Act.put, PL]
            refine wpAnyH_take (i := 7) (oi := _) (v := ?vb53) rfl (by kernel_rfl) (by kernel_rfl) (by kernel_rfl) (fun _ _ _ h => h) (Or.inl ⟨by kernel_rfl, ?hyb53⟩) hHeld ?restb53
            case hyb53 => (intro w hSw; go_simp; first | done | (with_reducible rfl))
            try simp only [Act.put, PL]
            refine wpAnyH_ready (rs := [10]) (by kernel_rfl) (by simp) (AllReadyH.cons (o := _) rfl (fun K hK => ?_) AllReadyH.nil)
            have n0 := BX.c 0 rfl
            have f0 := BX.f 0 rfl
            have n1 := BX.c 1 rfl
            have f1 := BX.f 1 rfl
            go_simp
            clear n0 f0 n1 f1
            refine hK.out _ _ ((hHeld.set (.inr hX) _).set (.inr hX) _) (fun hNew => ?_)
            clear hHeld hK K
            have hHeld := hNew
            clear hNew
            try simp only [Act.put, PL]
            refine at_anyH (fun v => GB (fun _ => False) V5 v ∧ BK v (wb3.heap.size) [.int .i64 0, .int .i64 0] ∧ BK v (wb38.heap.size) [.slice A2 2 ca2, .slice Q2 2 cq2] ∧ Mid wb48.heap.size wb49 v) ⟨hHeld, ((BY.far (by omega) _ _).far (by omega) _ _), ((BX.set 0 _).set 1 _), ((hm.set (by omega) _).set (by omega) _)⟩ (fun wb54 hS => ?_)
            clear hHeld BY BX hm
            obtain ⟨hHeld, BY, BX, hm⟩ := hS
            refine wpAnyH_ready (rs := [11]) (by kernel_rfl) (by simp) (AllReadyH.cons (o := _) rfl (fun K hK => ?_) AllReadyH.nil)
            have n0 := BY.c 0 rfl
            have f0 := BY.f 0 rfl
            have n1 := BY.c 1 rfl
            have f1 := BY.f 1 rfl
            go_simp
            clear n0 f0 n1 f1
            refine hK.out _ _ ((hHeld.set (.inr hY) _).set (.inr hY) _) (fun hNew => ?_)
            clear hHeld hK K
            have hHeld := hNew
            clear hNew
            try simp only [Act.put, PL]
            refine at_anyH (fun v => GB (fun _ => False) V5 v ∧ BK v (wb3.heap.size) [.int .i64 1, .int .i64 3] ∧ BK v (wb38.heap.size) [.slice A2 2 ca2, .slice Q2 2 cq2] ∧ Mid wb48.heap.size wb49 v) ⟨hHeld, ((BY.set 0 _).set 1 _), ((BX.far (by omega) _ _).far (by omega) _ _), ((hm.set (by omega) _).set (by omega) _)⟩ (fun wb55 hS => ?_)
            clear hHeld BY BX hm
            obtain ⟨hHeld, BY, BX, hm⟩ := hS
            refine wpAnyH_take (i := 12) (oi := _) (v := ?vb56) rfl (by kernel_rfl) (by kernel_rfl) (by kernel_rfl) (fun _ _ _ h => h) (Or.inl ⟨by kernel_rfl, ?hyb56⟩) hHeld ?restb56
            case hyb56 => (intro w hSw; go_simp; first | done | (with_reducible rfl))
            try simp only [Act.put, PL]
            refine wpAnyH_done (by kernel_rfl) ?_ _
            go_wp2_with fail
            go_meet
            exact ⟨_, _, A2, ca2, l2, Q2, cq2, rfl, rfl, rfl, hl2, hd2, (hfd2.mid hm).isCs, (hfd2.mid hm).isQs, BX, BY, BY1.gb hHeld (fun h => h), hHeld.toBelow hbb (fun k hk => hk.elim) hBV⟩
         · as_aux_lemma =>
          go_simp
          refine hK.out _ _ (hHeld.al _) (fun hNew => ?_)
          have hX : V5.heap.size ≤ wb2.heap.size := hHeld.size
          clear hHeld hK K
          have hHeld := hNew
          clear hNew
          try simp only [Act.put, PL]
          refine at_anyH (fun v => GB (fun _ => False) V5 v ∧ BK v (wb2.heap.size) [.slice none 0 0, .slice none 0 0]) ⟨hHeld, BK.new _ _ _⟩ (fun wb57 hS => ?_)
          clear hHeld
          obtain ⟨hHeld, BX⟩ := hS
          refine wpAnyH_ready (rs := [2, 9]) (by kernel_rfl) (by simp) (AllReadyH.cons (o := _) rfl (fun K hK => ?_) (AllReadyH.cons (o := _) rfl (fun K hK => ?_) AllReadyH.nil))
          · as_aux_lemma =>
           go_simp
           refine (of4_any 1 _).mono ?_
           rintro e wb58 ⟨rfl, hb3⟩
           go_wp2_with fail
           refine hK.out _ _ (hHeld.below hb3) (fun hNew => ?_)
           replace BX := BX.keep hb3
           clear hb3
           clear hHeld hK K
           have hHeld := hNew
           clear hNew
           try simp only [Act.put, PL]
           refine wpAnyH_ready (rs := [3, 9]) (by kernel_rfl) (by simp) (AllReadyH.cons (o := _) rfl (fun K hK => ?_) (AllReadyH.cons (o := _) rfl (fun K hK => ?_) AllReadyH.nil))
           · as_aux_lemma =>
            go_simp
            refine (MK.out _ (hHeld.toBelow (Below.refl _ _) (fun k hk => hk.elim) (Nat.le_refl _))).mono ?_
            rintro e wb59 ⟨hb3, A2, ca2, l2, Q2, cq2, rfl, hl2, hd2, hfd2⟩
            have hm := Mid.refl wb58.heap.size wb59
            go_wp2_with fail
            refine hK.out _ _ (hHeld.below hb3) (fun hNew => ?_)
            have cX := BX.lt
            replace BX := BX.keep hb3
            clear hb3
            clear hHeld hK K
            have hHeld := hNew
            clear hNew
            try simp only [Act.put, PL]
            refine wpAnyH_take (i := 4) (oi := _) (v := ?vb60) rfl (by kernel_rfl) (by kernel_rfl) (by kernel_rfl) (fun _ _ _ h => h) (Or.inl ⟨by kernel_rfl, ?hyb60⟩) hHeld ?restb60
            case hyb60 => (intro w hSw; go_simp; first | done | (with_reducible rfl))
            try simp only [Act.put, PL]
            refine wpAnyH_take (i := 5) (oi := _) (v := ?vb61) rfl (by kernel_rfl) (by kernel_rfl) (by kernel_rfl) (fun _ _ _ h => h) (Or.inl ⟨by kernel_rfl, ?hyb61⟩) hHeld ?restb61
            case hyb61 => (intro w hSw; go_simp; first | done | (with_reducible rfl))
            try simp only [Act.put, PL]
            refine wpAnyH_take (i := 6) (oi := _) (v := ?vb62) rfl (by kernel_rfl) (by kernel_rfl) (by kernel_rfl) (fun _ _ _ h => h) (Or.inl ⟨by kernel_rfl, ?hyb62⟩) hHeld ?restb62
            case hyb62 => (intro w hSw; go_simp; first | done | (with_reducible rfl))
            try simp only [Act.put, PL]
            refine wpAnyH_take (i := 7) (oi := _) (v := ?vb63) rfl (by kernel_rfl) (by kernel_rfl) (by kernel_rfl) (fun _ _ _ h => h) (Or.inl ⟨by kernel_rfl, ?hyb63⟩) hHeld ?restb63
            case hyb63 => (intro w hSw; go_simp; first | done | (with_reducible rfl))
            try simp only [Act.put, PL]
            refine wpAnyH_ready (rs := [9]) (by kernel_rfl) (by simp) (AllReadyH.cons (o := _) rfl (fun K hK => ?_) AllReadyH.nil)
            go_simp
            refine hK.out _ _ (hHeld.al _) (fun hNew => ?_)
            have hY : V5.heap.size ≤ wb59.heap.size := hHeld.size
            have dXY := BX.lt
            clear hHeld hK K
            have hHeld := hNew
            clear hNew
            try simp only [Act.put, PL]
            have gYhm := hm.size
            refine at_anyH (fun v => GB (fun _ => False) V5 v ∧ BK v (wb2.heap.size) [.slice none 0 0, .slice none 0 0] ∧ BK v (wb59.heap.size) [.int .i64 0, .int .i64 0] ∧ Mid wb58.heap.size wb59 v) ⟨hHeld, BX.al _, BK.new _ _ _, hm.al _⟩ (fun wb64 hS => ?_)
            clear hHeld BX hm
            obtain ⟨hHeld, BX, BY, hm⟩ := hS
            refine wpAnyH_ready (rs := [10]) (by kernel_rfl) (by simp) (AllReadyH.cons (o := _) rfl (fun K hK => ?_) AllReadyH.nil)
            have n0 := BX.c 0 rfl
            have f0 := BX.f 0 rfl
            have n1 := BX.c 1 rfl
            have f1 := BX.f 1 rfl
            go_simp
            clear n0 f0 n1 f1
            refine hK.out _ _ ((hHeld.set (.inr hX) _).set (.inr hX) _) (fun hNew => ?_)
            clear hHeld hK K
            have hHeld := hNew
            clear hNew
            try simp only [Act.put, PL]
            refine at_anyH (fun v => GB (fun _ => False) V5 v ∧ BK v (wb2.heap.size) [.slice A2 2 ca2, .slice Q2 2 cq2] ∧ BK v (wb59.heap.size) [.int .i64 0, .int .i64 0] ∧ Mid wb58.heap.size wb59 v) ⟨hHeld, ((BX.set 0 _).set 1 _), ((BY.far (by omega) _ _).far (by omega) _ _), ((hm.set (by omega) _).set (by omega) _)⟩ (fun wb65 hS => ?_)
            clear hHeld BX BY hm
            obtain ⟨hHeld, BX, BY, hm⟩ := hS
            refine wpAnyH_ready (rs := [11]) (by kernel_rfl) (by simp) (AllReadyH.cons (o := _) rfl (fun K hK => ?_) AllReadyH.nil)
            have n0 := BY.c 0 rfl
            have f0 := BY.f 0 rfl
            have n1 := BY.c 1 rfl
            have f1 := BY.f 1 rfl
            go_simp
            clear n0 f0 n1 f1
            refine hK.out _ _ ((hHeld.set (.inr hY) _).set (.inr hY) _) (fun hNew => ?_)
            clear hHeld hK K
            have hHeld := hNew
            clear hNew
            try simp only [Act.put, PL]
            refine at_anyH (fun v => GB (fun _ => False) V5 v ∧ BK v (wb2.heap.size) [.slice A2 2 ca2, .slice Q2 2 cq2] ∧ BK v (wb59.heap.size) [.int .i64 1, .int .i64 3] ∧ Mid wb58.heap.size wb59 v) ⟨hHeld, ((BX.far (by omega) _ _).far (by omega) _ _), ((BY.set 0 _).set 1 _), ((hm.set (by omega) _).set (by omega) _)⟩ (fun wb66 hS => ?_)
            clear hHeld BX BY hm
            obtain ⟨hHeld, BX, BY, hm⟩ := hS
            refine wpAnyH_take (i := 12) (oi := _) (v := ?vb67) rfl (by kernel_rfl) (by kernel_rfl) (by kernel_rfl) (fun _ _ _ h => h) (Or.inl ⟨by kernel_rfl, ?hyb67⟩) hHeld ?restb67
            case hyb67 => (intro w hSw; go_simp; first | done | (with_reducible rfl))
            try simp only [Act.put, PL]
            refine wpAnyH_done (by kernel_rfl) ?_ _
            go_wp2_with fail
            go_meet
            exact ⟨_, _, A2, ca2, l2, Q2, cq2, rfl, rfl, rfl, hl2, hd2, (hfd2.mid hm).isCs, (hfd2.mid hm).isQs, BX, BY, BY1.gb hHeld (fun h => h), hHeld.toBelow hbb (fun k hk => hk.elim) hBV⟩
           · as_aux_lemma =>
            go_simp
            refine hK.out _ _ (hHeld.al _) (fun hNew => ?_)
            have hY : V5.heap.size ≤ wb58.heap.size := hHeld.size
            have dXY := BX.lt
            clear hHeld hK K
            have hHeld := hNew
            clear hNew
            try simp only [Act.put, PL]
            refine at_anyH (fun v => GB (fun _ => False) V5 v ∧ BK v (wb2.heap.size) [.slice none 0 0, .slice none 0 0] ∧ BK v (wb58.heap.size) [.int .i64 0, .int .i64 0]) ⟨hHeld, BX.al _, BK.new _ _ _⟩ (fun wb68 hS => ?_)
            clear hHeld BX
            obtain ⟨hHeld, BX, BY⟩ := hS
            refine wpAnyH_ready (rs := [3]) (by kernel_rfl) (by simp) (AllReadyH.cons (o := _) rfl (fun K hK => ?_) AllReadyH.nil)
            go_simp
            refine (MK.out _ (hHeld.toBelow (Below.refl _ _) (fun k hk => hk.elim) (Nat.le_refl _))).mono ?_
            rintro e wb69 ⟨hb3, A2, ca2, l2, Q2, cq2, rfl, hl2, hd2, hfd2⟩
            have hm := Mid.refl wb68.heap.size wb69
            go_wp2_with fail
            refine hK.out _ _ (hHeld.below hb3) (fun hNew => ?_)
            have cX := BX.lt
            replace BX := BX.keep hb3
            have cY := BY.lt
            replace BY := BY.keep hb3
            clear hb3
            clear hHeld hK K
            have hHeld := hNew
            clear hNew
            try simp only [Act.put, PL]
            refine wpAnyH_take (i := 4) (oi := _) (v := ?vb70) rfl (by kernel_rfl) (by kernel_rfl) (by kernel_rfl) (fun _ _ _ h => h) (Or.inl ⟨by kernel_rfl, ?hyb70⟩) hHeld ?restb70
            case hyb70 => (intro w hSw; go_simp; first | done | (with_reducible rfl))
            try simp only [Act.put, PL]
            refine wpAnyH_take (i := 5) (oi := _) (v := ?vb71) rfl (by kernel_rfl) (by kernel_rfl) (by kernel_rfl) (fun _ _ _ h => h) (Or.inl ⟨by kernel_rfl, ?hyb71⟩) hHeld ?restb71
            case hyb71 => (intro w hSw; go_simp; first | done | (with_reducible rfl))
            try simp only [Act.put, PL]
            refine wpAnyH_take (i := 6) (oi := _) (v := ?vb72) rfl (by kernel_rfl) (by kernel_rfl) (by kernel_rfl) (fun _ _ _ h => h) (Or.inl ⟨by kernel_rfl, ?hyb72⟩) hHeld ?restb72
            case hyb72 => (intro w hSw; go_simp; first | done | (with_reducible rfl))
            try simp only [Act.put, PL]
            refine wpAnyH_take (i := 7) (oi := _) (v := ?vb73) rfl (by kernel_rfl) (by kernel_rfl) (by kernel_rfl) (fun _ _ _ h => h) (Or.inl ⟨by kernel_rfl, ?hyb73⟩) hHeld ?restb73
            case hyb73 => (intro w hSw; go_simp; first | done | (with_reducible rfl))
            try simp only [Act.put, PL]
            refine wpAnyH_ready (rs := [10]) (by kernel_rfl) (by simp) (AllReadyH.cons (o := _) rfl (fun K hK => ?_) AllReadyH.nil)
            have n0 := BX.c 0 rfl
            have f0 := BX.f 0 rfl
            have n1 := BX.c 1 rfl
            have f1 := BX.f 1 rfl
            go_simp
            clear n0 f0 n1 f1
            refine hK.out _ _ ((hHeld.set (.inr hX) _).set (.inr hX) _) (fun hNew => ?_)
            clear hHeld hK K
            have hHeld := hNew
            clear hNew
            try simp only [Act.put, PL]
            refine at_anyH (fun v => GB (fun _ => False) V5 v ∧ BK v (wb2.heap.size) [.slice A2 2 ca2, .slice Q2 2 cq2] ∧ BK v (wb58.heap.size) [.int .i64 0, .int .i64 0] ∧ Mid wb68.heap.size wb69 v) ⟨hHeld, ((BX.set 0 _).set 1 _), ((BY.far (by omega) _ _).far (by omega) _ _), ((hm.set (by omega) _).set (by omega) _)⟩ (fun wb74 hS => ?_)
            clear hHeld BX BY hm
            obtain ⟨hHeld, BX, BY, hm⟩ := hS
            refine wpAnyH_ready (rs := [11]) (by kernel_rfl) (by simp) (AllReadyH.cons (o := _) rfl (fun K hK => ?_) AllReadyH.nil)
            have n0 := BY.c 0 rfl
            have f0 := BY.f 0 rfl
            have n1 := BY.c 1 rfl
            have f1 := BY.f 1 rfl
            go_simp
            clear n0 f0 n1 f1
            refine hK.out _ _ ((hHeld.set (.inr hY) _).set (.inr hY) _) (fun hNew => ?_)
            clear hHeld hK K
            have hHeld := hNew
            clear hNew
            try simp only [Act.put, PL]
            refine at_anyH (fun v => GB (fun _ => False) V5 v ∧ BK v (wb2.heap.size) [.slice A2 2 ca2, .slice Q2 2 cq2] ∧ BK v (wb58.heap.size) [.int .i64 1, .int .i64 3] ∧ Mid wb68.heap.size wb69 v) ⟨hHeld, ((BX.far (by omega) _ _).far (by omega) _ _), ((BY.set 0 _).set 1 _), ((hm.set (by omega) _).set (by omega) _)⟩ (fun wb75 hS => ?_)
            clear hHeld BX BY hm
            obtain ⟨hHeld, BX, BY, hm⟩ := hS
            refine wpAnyH_take (i := 12) (oi := _) (v := ?vb76) rfl (by kernel_rfl) (by kernel_rfl) (by kernel_rfl) (fun _ _ _ h => h) (Or.inl ⟨by kernel_rfl, ?hyb76⟩) hHeld ?restb76
            case hyb76 => (intro w hSw; go_simp; first | done | (with_reducible rfl))
            try simp only [Act.put, PL]
            refine wpAnyH_done (by kernel_rfl) ?_ _
            go_wp2_with fail
            go_meet
            exact ⟨_, _, A2, ca2, l2, Q2, cq2, rfl, rfl, rfl, hl2, hd2, (hfd2.mid hm).isCs, (hfd2.mid hm).isQs, BX, BY, BY1.gb hHeld (fun h => h), hHeld.toBelow hbb (fun k hk => hk.elim) hBV⟩
          · as_aux_lemma =>
           go_simp
           refine hK.out _ _ (hHeld.al _) (fun hNew => ?_)
           have hY : V5.heap.size ≤ wb57.heap.size := hHeld.size
           have dXY := BX.lt
           clear hHeld hK K
           have hHeld := hNew
           clear hNew
           try simp only [Act.put, PL]
           refine at_anyH (fun v => GB (fun _ => False) V5 v ∧ BK v (wb2.heap.size) [.slice none 0 0, .slice none 0 0] ∧ BK v (wb57.heap.size) [.int .i64 0, .int .i64 0]) ⟨hHeld, BX.al _, BK.new _ _ _⟩ (fun wb77 hS => ?_)
           clear hHeld BX
           obtain ⟨hHeld, BX, BY⟩ := hS
           refine wpAnyH_ready (rs := [2]) (by kernel_rfl) (by simp) (AllReadyH.cons (o := _) rfl (fun K hK => ?_) AllReadyH.nil)
           go_simp
           refine (of4_any 1 _).mono ?_
           rintro e wb78 ⟨rfl, hb3⟩
           go_wp2_with fail
           refine hK.out _ _ (hHeld.below hb3) (fun hNew => ?_)
           replace BX := BX.keep hb3
           replace BY := BY.keep hb3
           clear hb3
           clear hHeld hK K
           have hHeld := hNew
           clear hNew
           try simp only [Act.put, PL]
           refine wpAnyH_ready (rs := [3]) (by kernel_rfl) (by simp) (AllReadyH.cons (o := _) rfl (fun K hK => ?_) AllReadyH.nil)
           go_simp
           refine (MK.out _ (hHeld.toBelow (Below.refl _ _) (fun k hk => hk.elim) (Nat.le_refl _))).mono ?_
           rintro e wb79 ⟨hb3, A2, ca2, l2, Q2, cq2, rfl, hl2, hd2, hfd2⟩
           have hm := Mid.refl wb78.heap.size wb79
           go_wp2_with fail
           refine hK.out _ _ (hHeld.below hb3) (fun hNew => ?_)
           have cX := BX.lt
           replace BX := BX.keep hb3
           have cY := BY.lt
           replace BY := BY.keep hb3
           clear hb3
           clear hHeld hK K
           have hHeld := hNew
           clear hNew
           try simp only [Act.put, PL]
           refine wpAnyH_take (i := 4) (oi := _) (v := ?vb80) rfl (by kernel_rfl) (by kernel_rfl) (by kernel_rfl) (fun _ _ _ h => h) (Or.inl ⟨by kernel_rfl, ?hyb80⟩) hHeld ?restb80
           case hyb80 => (intro w hSw; go_simp; first | done | (with_reducible rfl))
           try simp only [Act.put, PL]
           refine wpAnyH_take (i := 5) (oi := _) (v := ?vb81) rfl (by kernel_rfl) (by kernel_rfl) (by kernel_rfl) (fun _ _ _ h => h) (Or.inl ⟨by kernel_rfl, ?hyb81⟩) hHeld ?restb81
           case hyb81 => (intro w hSw; go_simp; first | done | (with_reducible rfl))
           try simp only [Act.put, PL]
           refine wpAnyH_take (i := 6) (oi := _) (v := ?vb82) rfl (by kernel_rfl) (by kernel_rfl) (by kernel_rfl) (fun _ _ _ h => h) (Or.inl ⟨by kernel_rfl, ?hyb82⟩) hHeld ?restb82
           case hyb82 => (intro w hSw; go_simp; first | done | (with_reducible rfl))
           try simp only [Act.put, PL]
           refine wpAnyH_take (i := 7) (oi := _) (v := ?vb83) rfl (by kernel_rfl) (by kernel_rfl) (by kernel_rfl) (fun _ _ _ h => h) (Or.inl ⟨by kernel_rfl, ?hyb83⟩) hHeld ?restb83
           case hyb83 => (intro w hSw; go_simp; first | done | (with_reducible rfl))
           try simp only [Act.put, PL]
           refine wpAnyH_ready (rs := [10]) (by kernel_rfl) (by simp) (AllReadyH.cons (o := _) rfl (fun K hK => ?_) AllReadyH.nil)
           have n0 := BX.c 0 rfl
           have f0 := BX.f 0 rfl
           have n1 := BX.c 1 rfl
           have f1 := BX.f 1 rfl
           go_simp
           clear n0 f0 n1 f1
           refine hK.out _ _ ((hHeld.set (.inr hX) _).set (.inr hX) _) (fun hNew => ?_)
           clear hHeld hK K
           have hHeld := hNew
           clear hNew
           try simp only [Act.put, PL]
           refine at_anyH (fun v => GB (fun _ => False) V5 v ∧ BK v (wb2.heap.size) [.slice A2 2 ca2, .slice Q2 2 cq2] ∧ BK v (wb57.heap.size) [.int .i64 0, .int .i64 0] ∧ Mid wb78.heap.size wb79 v) ⟨hHeld, ((BX.set 0 _).set 1 _), ((BY.far (by omega) _ _).far (by omega) _ _), ((hm.set (by omega) _).set (by omega) _)⟩ (fun wb84 hS => ?_)
           clear hHeld BX BY hm
           obtain ⟨hHeld, BX, BY, hm⟩ := hS
           refine wpAnyH_ready (rs := [11]) (by kernel_rfl) (by simp) (AllReadyH.cons (o := _) rfl (fun K hK => ?_) AllReadyH.nil)
           have n0 := BY.c 0 rfl
           have f0 := BY.f 0 rfl
           have n1 := BY.c 1 rfl
           have f1 := BY.f 1 rfl
           go_simp
           clear n0 f0 n1 f1
           refine hK.out _ _ ((hHeld.set (.inr hY) _).set (.inr hY) _) (fun hNew => ?_)
           clear hHeld hK K
           have hHeld := hNew
           clear hNew
           try simp only [Act.put, PL]
           refine at_anyH (fun v => GB (fun _ => False) V5 v ∧ BK v (wb2.heap.size) [.slice A2 2 ca2, .slice Q2 2 cq2] ∧ BK v (wb57.heap.size) [.int .i64 1, .int .i64 3] ∧ Mid wb78.heap.size wb79 v) ⟨hHeld, ((BX.far (by omega) _ _).far (by omega) _ _), ((BY.set 0 _).set 1 _), ((hm.set (by omega) _).set (by omega) _)⟩ (fun wb85 hS => ?_)
           clear hHeld BX BY hm
           obtain ⟨hHeld, BX, BY, hm⟩ := hS
           refine wpAnyH_take (i := 12) (oi := _) (v := ?vb86) rfl (by kernel_rfl) (by kernel_rfl) (by kernel_rfl) (fun _ _ _ h => h) (Or.inl ⟨by kernel_rfl, ?hyb86⟩) hHeld ?restb86
           case hyb86 => (intro w hSw; go_simp; first | done | (with_reducible rfl))
           try simp only [Act.put, PL]
           refine wpAnyH_done (by kernel_rfl) ?_ _
           go_wp2_with fail
           go_meet
           exact ⟨_, _, A2, ca2, l2, Q2, cq2, rfl, rfl, rfl, hl2, hd2, (hfd2.mid hm).isCs, (hfd2.mid hm).isQs, BX, BY, BY1.gb hHeld (fun h => h), hHeld.toBelow hbb (fun k hk => hk.elim) hBV⟩
         · as_aux_lemma =>
          go_simp
          refine hK.out _ _ (hHeld.al _) (fun hNew => ?_)
          have hY : V5.heap.size ≤ wb2.heap.size := hHeld.size
          clear hHeld hK K
          have hHeld := hNew
          clear hNew
          try simp only [Act.put, PL]
          refine at_anyH (fun v => GB (fun _ => False) V5 v ∧ BK v (wb2.heap.size) [.int .i64 0, .int .i64 0]) ⟨hHeld, BK.new _ _ _⟩ (fun wb87 hS => ?_)
          clear hHeld
          obtain ⟨hHeld, BY⟩ := hS
          refine wpAnyH_ready (rs := [2, 8]) (by kernel_rfl) (by simp) (AllReadyH.cons (o := _) rfl (fun K hK => ?_) (AllReadyH.cons (o := _) rfl (fun K hK => ?_) AllReadyH.nil))
          · as_aux_lemma =>
           go_simp
           refine (of4_any 1 _).mono ?_
           rintro e wb88 ⟨rfl, hb3⟩
           go_wp2_with fail
           refine hK.out _ _ (hHeld.below hb3) (fun hNew => ?_)
           replace BY := BY.keep hb3
           clear hb3
           clear hHeld hK K
           have hHeld := hNew
           clear hNew
           try simp only [Act.put, PL]
           refine wpAnyH_ready (rs := [3, 8]) (by kernel_rfl) (by simp) (AllReadyH.cons (o := _) rfl (fun K hK => ?_) (AllReadyH.cons (o := _) rfl (fun K hK => ?_) AllReadyH.nil))
           · as_aux_lemma =>
            go_simp
            refine (MK.out _ (hHeld.toBelow (Below.refl _ _) (fun k hk => hk.elim) (Nat.le_refl _))).mono ?_
            rintro e wb89 ⟨hb3, A2, ca2, l2, Q2, cq2, rfl, hl2, hd2, hfd2⟩
            have hm := Mid.refl wb88.heap.size wb89
            go_wp2_with fail
            refine hK.out _ _ (hHeld.below hb3) (fun hNew => ?_)
            have cY := BY.lt
            replace BY := BY.keep hb3
            clear hb3
            clear hHeld hK K
            have hHeld := hNew
            clear hNew
            try simp only [Act.put, PL]
            refine wpAnyH_take (i := 4) (oi := _) (v := ?vb90) rfl (by kernel_rfl) (by kernel_rfl) (by kernel_rfl) (fun _ _ _ h => h) (Or.inl ⟨by kernel_rfl, ?hyb90⟩) hHeld ?restb90
            case hyb90 => (intro w hSw; go_simp; first | done | (with_reducible rfl))
            try simp only [Act.put, PL]
            refine wpAnyH_take (i := 5) (oi := _) (v := ?vb91) rfl (by kernel_rfl) (by kernel_rfl) (by kernel_rfl) (fun _ _ _ h => h) (Or.inl ⟨by kernel_rfl, ?hyb91⟩) hHeld ?restb91
            case hyb91 => (intro w hSw; go_simp; first | done | (with_reducible rfl))
            try simp only [Act.put, PL]
            refine wpAnyH_take (i := 6) (oi := _) (v := ?vb92) rfl (by kernel_rfl) (by kernel_rfl) (by kernel_rfl) (fun _ _ _ h => h) (Or.inl ⟨by kernel_rfl, ?hyb92⟩) hHeld ?restb92
            case hyb92 => (intro w hSw; go_simp; first | done | (with_reducible rfl))
            try simp only [Act.put, PL]
            refine wpAnyH_take (i := 7) (oi := _) (v := ?vb93) rfl (by kernel_rfl) (by kernel_rfl) (by kernel_rfl) (fun _ _ _ h => h) (Or.inl ⟨by kernel_rfl, ?hyb93⟩) hHeld ?restb93
            case hyb93 => (intro w hSw; go_simp; first | done | (with_reducible rfl))
            try simp only [Act.put, PL]
            refine wpAnyH_ready (rs := [8]) (by kernel_rfl) (by simp) (AllReadyH.cons (o := _) rfl (fun K hK => ?_) AllReadyH.nil)
            go_simp
            refine hK.out _ _ (hHeld.al _) (fun hNew => ?_)
            have hX : V5.heap.size ≤ wb89.heap.size := hHeld.size
            have dYX := BY.lt
            clear hHeld hK K
            have hHeld := hNew
            clear hNew
            try simp only [Act.put, PL]
            have gXhm := hm.size
            refine at_anyH (fun v => GB (fun _ => False) V5 v ∧ BK v (wb2.heap.size) [.int .i64 0, .int .i64 0] ∧ BK v (wb89.heap.size) [.slice none 0 0, .slice none 0 0] ∧ Mid wb88.heap.size wb89 v) ⟨hHeld, BY.al _, BK.new _ _ _, hm.al _⟩ (fun wb94 hS => ?_)
            clear hHeld BY hm
            obtain ⟨hHeld, BY, BX, hm⟩ := hS
            refine wpAnyH_ready (rs := [10]) (by kernel_rfl) (by simp) (AllReadyH.cons (o := _) rfl (fun K hK => ?_) AllReadyH.nil)
            have n0 := BX.c 0 rfl
            have f0 := BX.f 0 rfl
            have n1 := BX.c 1 rfl
            have f1 := BX.f 1 rfl
            go_simp
            clear n0 f0 n1 f1
            refine hK.out _ _ ((hHeld.set (.inr hX) _).set (.inr hX) _) (fun hNew => ?_)
            clear hHeld hK K
            have hHeld := hNew
            clear hNew
            try simp only [Act.put, PL]
            refine at_anyH (fun v => GB (fun _ => False) V5 v ∧ BK v (wb2.heap.size) [.int .i64 0, .int .i64 0] ∧ BK v (wb89.heap.size) [.slice A2 2 ca2, .slice Q2 2 cq2] ∧ Mid wb88.heap.size wb89 v) ⟨hHeld, ((BY.far (by omega) _ _).far (by omega) _ _), ((BX.set 0 _).set 1 _), ((hm.set (by omega) _).set (by omega) _)⟩ (fun wb95 hS => ?_)
            clear hHeld BY BX hm
            obtain ⟨hHeld, BY, BX, hm⟩ := hS
            refine wpAnyH_ready (rs := [11]) (by kernel_rfl) (by simp) (AllReadyH.cons (o := _) rfl (fun K hK => ?_) AllReadyH.nil)
            have n0 := BY.c 0 rfl
            have f0 := BY.f 0 rfl
            have n1 := BY.c 1 rfl
            have f1 := BY.f 1 rfl
            go_simp
            clear n0 f0 n1 f1
            refine hK.out _ _ ((hHeld.set (.inr hY) _).set (.inr hY) _) (fun hNew => ?_)
            clear hHeld hK K
            have hHeld := hNew
            clear hNew
            try simp only [Act.put, PL]
            refine at_anyH (fun v => GB (fun _ => False) V5 v ∧ BK v (wb2.heap.size) [.int .i64 1, .int .i64 3] ∧ BK v (wb89.heap.size) [.slice A2 2 ca2, .slice Q2 2 cq2] ∧ Mid wb88.heap.size wb89 v) ⟨hHeld, ((BY.set 0 _).set 1 _), ((BX.far (by omega) _ _).far (by omega) _ _), ((hm.set (by omega) _).set (by omega) _)⟩ (fun wb96 hS => ?_)
            clear hHeld BY BX hm
            obtain ⟨hHeld, BY, BX, hm⟩ := hS
            refine wpAnyH_take (i := 12) (oi := _) (v := ?vb97) rfl (by kernel_rfl) (by kernel_rfl) (by kernel_rfl) (fun _ _ _ h => h) (Or.inl ⟨by kernel_rfl, ?hyb97⟩) hHeld ?restb97
            case hyb97 => (intro w hSw; go_simp; first | done | (with_reducible rfl))
            try simp only [Act.put, PL]
            refine wpAnyH_done (by kernel_rfl) ?_ _
            go_wp2_with fail
            go_meet
            exact ⟨_, _, A2, ca2, l2, Q2, cq2, rfl, rfl, rfl, hl2, hd2, (hfd2.mid hm).isCs, (hfd2.mid hm).isQs, BX, BY, BY1.gb hHeld (fun h => h), hHeld.toBelow hbb (fun k hk => hk.elim) hBV⟩
           · as_aux_lemma =>
            go_simp
            refine hK.out _ _ (hHeld.al _) (fun hNew => ?_)
            have hX : V5.heap.size ≤ wb88.heap.size := hHeld.size
            have dYX := BY.lt
            clear hHeld hK K
            have hHeld := hNew
            clear hNew
            try simp only [Act.put, PL]
            refine at_anyH (fun v => GB (fun _ => False) V5 v ∧ BK v (wb2.heap.size) [.int .i64 0, .int .i64 0] ∧ BK v (wb88.heap.size) [.slice none 0 0, .slice none 0 0]) ⟨hHeld, BY.al _, BK.new _ _ _⟩ (fun wb98 hS => ?_)
            clear hHeld BY
            obtain ⟨hHeld, BY, BX⟩ := hS
            refine wpAnyH_ready (rs := [3]) (by kernel_rfl) (by simp) (AllReadyH.cons (o := _) rfl (fun K hK => ?_) AllReadyH.nil)
            go_simp
            refine (MK.out _ (hHeld.toBelow (Below.refl _ _) (fun k hk => hk.elim) (Nat.le_refl _))).mono ?_
            rintro e wb99 ⟨hb3, A2, ca2, l2, Q2, cq2, rfl, hl2, hd2, hfd2⟩
            have hm := Mid.refl wb98.heap.size wb99
            go_wp2_with fail
            refine hK.out _ _ (hHeld.below hb3) (fun hNew => ?_)
            have cY := BY.lt
            replace BY := BY.keep hb3
            have cX := BX.lt
            replace BX := BX.keep hb3
            clear hb3
            clear hHeld hK K
            have hHeld := hNew
            clear hNew
            try simp only [Act.put, PL]
            refine wpAnyH_take (i := 4) (oi := _) (v := ?vb100) rfl (by kernel_rfl) (by kernel_rfl) (by kernel_rfl) (fun _ _ _ h => h) (Or.inl ⟨by kernel_rfl, ?hyb100⟩) hHeld ?restb100
            case hyb100 => (intro w hSw; go_simp; first | done | (with_reducible rfl))
            try simp only [Act.put, PL]
            refine wpAnyH_take (i := 5) (oi := _) (v := ?vb101) rfl (by kernel_rfl) (by kernel_rfl) (by kernel_rfl) (fun _ _ _ h => h) (Or.inl ⟨by kernel_rfl, ?hyb101⟩) hHeld ?restb101
            case hyb101 => (intro w hSw; go_simp; first | done | (with_reducible rfl))
            try simp only [Act.put, PL]
            refine wpAnyH_take (i := 6) (oi := _) (v := ?vb102) rfl (by kernel_rfl) (by kernel_rfl) (by kernel_rfl) (fun _ _ _ h => h) (Or.inl ⟨by kernel_rfl, ?hyb102⟩) hHeld ?restb102
            case hyb102 => (intro w hSw; go_simp; first | done | (with_reducible rfl))
            try simp only [Act.put, PL]
            refine wpAnyH_take (i := 7) (oi := _) (v := ?vb103) rfl (by kernel_rfl) (by kernel_rfl) (by kernel_rfl) (fun _ _ _ h => h) (Or.inl ⟨by kernel_rfl, ?hyb103⟩) hHeld ?restb103
            case hyb103 => (intro w hSw; go_simp; first | done | (with_reducible rfl))
            try simp only [Act.put, PL]
            refine wpAnyH_ready (rs := [10]) (by kernel_rfl) (by simp) (AllReadyH.cons (o := _) rfl (fun K hK => ?_) AllReadyH.nil)
            have n0 := BX.c 0 rfl
            have f0 := BX.f 0 rfl
            have n1 := BX.c 1 rfl
            have f1 := BX.f 1 rfl
            go_simp
            clear n0 f0 n1 f1
            refine hK.out _ _ ((hHeld.set (.inr hX) _).set (.inr hX) _) (fun hNew => ?_)
            clear hHeld hK K
            have hHeld := hNew
            clear hNew
            try simp only [Act.put, PL]
            refine at_anyH (fun v => GB (fun _ => False) V5 v ∧ BK v (wb2.heap.size) [.int .i64 0, .int .i64 0] ∧ BK v (wb88.heap.size) [.slice A2 2 ca2, .slice Q2 2 cq2] ∧ Mid wb98.heap.size wb99 v) ⟨hHeld, ((BY.far (by omega) _ _).far (by omega) _ _), ((BX.set 0 _).set 1 _), ((hm.set (by omega) _).set (by omega) _)⟩ (fun wb104 hS => ?_)
            clear hHeld BY BX hm
            obtain ⟨hHeld, BY, BX, hm⟩ := hS
            refine wpAnyH_ready (rs := [11]) (by kernel_rfl) (by simp) (AllReadyH.cons (o := _) rfl (fun K hK => ?_) AllReadyH.nil)
            have n0 := BY.c 0 rfl
            have f0 := BY.f 0 rfl
            have n1 := BY.c 1 rfl
            have f1 := BY.f 1 rfl
            go_simp
            clear n0 f0 n1 f1
            refine hK.out _ _ ((hHeld.set (.inr hY) _).set (.inr hY) _) (fun hNew => ?_)
            clear hHeld hK K
            have hHeld := hNew
            clear hNew
            try simp only [Act.put, PL]
            refine at_anyH (fun v => GB (fun _ => False) V5 v ∧ BK v (wb2.heap.size) [.int .i64 1, .int .i64 3] ∧ BK v (wb88.heap.size) [.slice A2 2 ca2, .slice Q2 2 cq2] ∧ Mid wb98.heap.size wb99 v) ⟨hHeld, ((BY.set 0 _).set 1 _), ((BX.far (by omega) _ _).far (by omega) _ _), ((hm.set (by omega) _).set (by omega) _)⟩ (fun wb105 hS => ?_)
            clear hHeld BY BX hm
            obtain ⟨hHeld, BY, BX, hm⟩ := hS
            refine wpAnyH_take (i := 12) (oi := _) (v := ?vb106) rfl (by kernel_rfl) (by kernel_rfl) (by kernel_rfl) (fun _ _ _ h => h) (Or.inl ⟨by kernel_rfl, ?hyb106⟩) hHeld ?restb106
            case hyb106 => (intro w hSw; go_simp; first | done | (with_reducible rfl))
            try simp only [Act.put, PL]
            refine wpAnyH_done (by kernel_rfl) ?_ _
            go_wp2_with fail
            go_meet
            exact ⟨_, _, A2, ca2, l2, Q2, cq2, rfl, rfl, rfl, hl2, hd2, (hfd2.mid hm).isCs, (hfd2.mid hm).isQs, BX, BY, BY1.gb hHeld (fun h => h), hHeld.toBelow hbb (fun k hk => hk.elim) hBV⟩
          · as_aux_lemma =>
           go_simp
           refine hK.out _ _ (hHeld.al _) (fun hNew => ?_)
           have hX : V5.heap.size ≤ wb87.heap.size := hHeld.size
           have dYX := BY.lt
           clear hHeld hK K
           have hHeld := hNew
           clear hNew
           try simp only [Act.put, PL]
           refine at_anyH (fun v => GB (fun _ => False) V5 v ∧ BK v (wb2.heap.size) [.int .i64 0, .int .i64 0] ∧ BK v (wb87.heap.size) [.slice none 0 0, .slice none 0 0]) ⟨hHeld, BY.al _, BK.new _ _ _⟩ (fun wb107 hS => ?_)
           clear hHeld BY
           obtain ⟨hHeld, BY, BX⟩ := hS
           refine wpAnyH_ready (rs := [2]) (by kernel_rfl) (by simp) (AllReadyH.cons (o := _) rfl (fun K hK => ?_) AllReadyH.nil)
           go_simp
           refine (of4_any 1 _).mono ?_
           rintro e wb108 ⟨rfl, hb3⟩
           go_wp2_with fail
           refine hK.out _ _ (hHeld.below hb3) (fun hNew => ?_)
           replace BY := BY.keep hb3
           replace BX := BX.keep hb3
           clear hb3
           clear hHeld hK K
           have hHeld := hNew
           clear hNew
           try simp only [Act.put, PL]
           refine wpAnyH_ready (rs := [3]) (by kernel_rfl) (by simp) (AllReadyH.cons (o := _) rfl (fun K hK => ?_) AllReadyH.nil)
           go_simp
           refine (MK.out _ (hHeld.toBelow (Below.refl _ _) (fun k hk => hk.elim) (Nat.le_refl _))).mono ?_
           rintro e wb109 ⟨hb3, A2, ca2, l2, Q2, cq2, rfl, hl2, hd2, hfd2⟩
           have hm := Mid.refl wb108.heap.size wb109
           go_wp2_with fail
           refine hK.out _ _ (hHeld.below hb3) (fun hNew => ?_)
           have cY := BY.lt
           replace BY := BY.keep hb3
           have cX := BX.lt
           replace BX := BX.keep hb3
           clear hb3
           clear hHeld hK K
           have hHeld := hNew
           clear hNew
           try simp only [Act.put, PL]
           refine wpAnyH_take (i := 4) (oi := _) (v := ?vb110) rfl (by kernel_rfl) (by kernel_rfl) (by kernel_rfl) (fun _ _ _ h => h) (Or.inl ⟨by kernel_rfl, ?hyb110⟩) hHeld ?restb110
           case hyb110 => (intro w hSw; go_simp; first | done | (with_reducible rfl))
           try simp only [Act.put, PL]
           refine wpAnyH_take (i := 5) (oi := _) (v := ?vb111) rfl (by kernel_rfl) (by kernel_rfl) (by kernel_rfl) (fun _ _ _ h => h) (Or.inl ⟨by kernel_rfl, ?hyb111⟩) hHeld ?restb111
           case hyb111 => (intro w hSw; go_simp; first | done | (with_reducible rfl))
           try simp only [Act.put, PL]
           refine wpAnyH_take (i := 6) (oi := _) (v := ?vb112) rfl (by kernel_rfl) (by kernel_rfl) (by kernel_rfl) (fun _ _ _ h => h) (Or.inl ⟨by kernel_rfl, ?hyb112⟩) hHeld ?restb112
           case hyb112 => (intro w hSw; go_simp; first | done | (with_reducible rfl))
           try simp only [Act.put, PL]
           refine wpAnyH_take (i := 7) (oi := _) (v := ?vb113) rfl (by kernel_rfl) (by kernel_rfl) (by kernel_rfl) (fun _ _ _ h => h) (Or.inl ⟨by kernel_rfl, ?hyb113⟩) hHeld ?restb113
           case hyb113 => (intro w hSw; go_simp; first | done | (with_reducible rfl))
           try simp only [Act.put, PL]
           refine wpAnyH_ready (rs := [10]) (by kernel_rfl) (by simp) (AllReadyH.cons (o := _) rfl (fun K hK => ?_) AllReadyH.nil)
           have n0 := BX.c 0 rfl
           have f0 := BX.f 0 rfl
           have n1 := BX.c 1 rfl
           have f1 := BX.f 1 rfl
           go_simp
           clear n0 f0 n1 f1
           refine hK.out _ _ ((hHeld.set (.inr hX) _).set (.inr hX) _) (fun hNew => ?_)
           clear hHeld hK K
           have hHeld := hNew
           clear hNew
           try simp only [Act.put, PL]
           refine at_anyH (fun v => GB (fun _ => False) V5 v ∧ BK v (wb2.heap.size) [.int .i64 0, .int .i64 0] ∧ BK v (wb87.heap.size) [.slice A2 2 ca2, .slice Q2 2 cq2] ∧ Mid wb108.heap.size wb109 v) ⟨hHeld, ((BY.far (by omega) _ _).far (by omega) _ _), ((BX.set 0 _).set 1 _), ((hm.set (by omega) _).set (by omega) _)⟩ (fun wb114 hS => ?_)
           clear hHeld BY BX hm
           obtain ⟨hHeld, BY, BX, hm⟩ := hS
           refine wpAnyH_ready (rs := [11]) (by kernel_rfl) (by simp) (AllReadyH.cons (o := _) rfl (fun K hK => ?_) AllReadyH.nil)
           have n0 := BY.c 0 rfl
           have f0 := BY.f 0 rfl
           have n1 := BY.c 1 rfl
           have f1 := BY.f 1 rfl
           go_simp
           clear n0 f0 n1 f1
           refine hK.out _ _ ((hHeld.set (.inr hY) _).set (.inr hY) _) (fun hNew => ?_)
           clear hHeld hK K
           have hHeld := hNew
           clear hNew
           try simp only [Act.put, PL]
           refine at_anyH (fun v => GB (fun _ => False) V5 v ∧ BK v (wb2.heap.size) [.int .i64 1, .int .i64 3] ∧ BK v (wb87.heap.size) [.slice A2 2 ca2, .slice Q2 2 cq2] ∧ Mid wb108.heap.size wb109 v) ⟨hHeld, ((BY.set 0 _).set 1 _), ((BX.far (by omega) _ _).far (by omega) _ _), ((hm.set (by omega) _).set (by omega) _)⟩ (fun wb115 hS => ?_)
           clear hHeld BY BX hm
           obtain ⟨hHeld, BY, BX, hm⟩ := hS
           refine wpAnyH_take (i := 12) (oi := _) (v := ?vb116) rfl (by kernel_rfl) (by kernel_rfl) (by kernel_rfl) (fun _ _ _ h => h) (Or.inl ⟨by kernel_rfl, ?hyb116⟩) hHeld ?restb116
           case hyb116 => (intro w hSw; go_simp; first | done | (with_reducible rfl))
           try simp only [Act.put, PL]
           refine wpAnyH_done (by kernel_rfl) ?_ _
           go_wp2_with fail
           go_meet
           exact ⟨_, _, A2, ca2, l2, Q2, cq2, rfl, rfl, rfl, hl2, hd2, (hfd2.mid hm).isCs, (hfd2.mid hm).isQs, BX, BY, BY1.gb hHeld (fun h => h), hHeld.toBelow hbb (fun k hk => hk.elim) hBV⟩
        · as_aux_lemma =>
         go_simp
         refine hK.out _ _ (hHeld.al _) (fun hNew => ?_)
         have hX : V5.heap.size ≤ wb0.heap.size := hHeld.size
         clear hHeld hK K
         have hHeld := hNew
         clear hNew
         try simp only [Act.put, PL]
         refine at_anyH (fun v => GB (fun _ => False) V5 v ∧ BK v (wb0.heap.size) [.slice none 0 0, .slice none 0 0]) ⟨hHeld, BK.new _ _ _⟩ (fun wb117 hS => ?_)
         clear hHeld
         obtain ⟨hHeld, BX⟩ := hS
         refine wpAnyH_ready (rs := [1, 9]) (by kernel_rfl) (by simp) (AllReadyH.cons (o := _) rfl (fun K hK => ?_) (AllReadyH.cons (o := _) rfl (fun K hK => ?_) AllReadyH.nil))
         · as_aux_lemma =>
          go_simp
          refine (of4_any 0 _).mono ?_
          rintro e wb118 ⟨rfl, hb3⟩
          go_wp2_with fail
          refine hK.out _ _ (hHeld.below hb3) (fun hNew => ?_)
          replace BX := BX.keep hb3
          clear hb3
          clear hHeld hK K
          have hHeld := hNew
          clear hNew
          try simp only [Act.put, PL]
          refine wpAnyH_ready (rs := [2, 9]) (by kernel_rfl) (by simp) (AllReadyH.cons (o := _) rfl (fun K hK => ?_) (AllReadyH.cons (o := _) rfl (fun K hK => ?_) AllReadyH.nil))
          · as_aux_lemma =>
           go_simp
           refine (of4_any 1 _).mono ?_
           rintro e wb119 ⟨rfl, hb3⟩
           go_wp2_with fail
           refine hK.out _ _ (hHeld.below hb3) (fun hNew => ?_)
           replace BX := BX.keep hb3
           clear hb3
           clear hHeld hK K
           have hHeld := hNew
           clear hNew
           try simp only [Act.put, PL]
           refine wpAnyH_ready (rs := [3, 9]) (by kernel_rfl) (by simp) (AllReadyH.cons (o := _) rfl (fun K hK => ?_) (AllReadyH.cons (o := _) rfl (fun K hK => ?_) AllReadyH.nil))
           · as_aux_lemma =>
            go_simp
            refine (MK.out _ (hHeld.toBelow (Below.refl _ _) (fun k hk => hk.elim) (Nat.le_refl _))).mono ?_
            rintro e wb120 ⟨hb3, A2, ca2, l2, Q2, cq2, rfl, hl2, hd2, hfd2⟩
            have hm := Mid.refl wb119.heap.size wb120
            go_wp2_with fail
            refine hK.out _ _ (hHeld.below hb3) (fun hNew => ?_)
            have cX := BX.lt
            replace BX := BX.keep hb3
            clear hb3
            clear hHeld hK K
            have hHeld := hNew
            clear hNew
            try simp only [Act.put, PL]
            refine wpAnyH_take (i := 4) (oi := _) (v := ?vb121) rfl (by kernel_rfl) (by kernel_rfl) (by kernel_rfl) (fun _ _ _ h => h) (Or.inl ⟨by kernel_rfl, ?hyb121⟩) hHeld ?restb121
            case hyb121 => (intro w hSw; go_simp; first | done | (with_reducible rfl))
            try simp only [Act.put, PL]
            refine wpAnyH_take (i := 5) (oi := _) (v := ?vb122) rfl (by kernel_rfl) (by kernel_rfl) (by kernel_rfl) (fun _ _ _ h => h) (Or.inl ⟨by kernel_rfl, ?hyb122⟩) hHeld ?restb122
            case hyb122 => (intro w hSw; go_simp; first | done | (with_reducible rfl))
            try simp only [Act.put, PL]
            refine wpAnyH_take (i := 6) (oi := _) (v := ?vb123) rfl (by kernel_rfl) (by kernel_rfl) (by kernel_rfl) (fun _ _ _ h => h) (Or.inl ⟨by kernel_rfl, ?hyb123⟩) hHeld ?restb123
            case hyb123 => (intro w hSw; go_simp; first | done | (with_reducible rfl))
            try simp only [Act.put, PL]
            refine wpAnyH_take (i := 7) (oi := _) (v := ?vb124) rfl (by kernel_rfl) (by kernel_rfl) (by kernel_rfl) (fun _ _ _ h => h) (Or.inl ⟨by kernel_rfl, ?hyb124⟩) hHeld ?restb124
            case hyb124 => (intro w hSw; go_simp; first | done | (with_reducible rfl))
            try simp only [Act.put, PL]
            refine wpAnyH_ready (rs := [9]) (by kernel_rfl) (by simp) (AllReadyH.cons (o := _) rfl (fun K hK => ?_) AllReadyH.nil)
            go_simp
            refine hK.out _ _ (hHeld.al _) (fun hNew => ?_)
            have hY : V5.heap.size ≤ wb120.heap.size := hHeld.size
            have dXY := BX.lt
            clear hHeld hK K
            have hHeld := hNew
            clear hNew
            try simp only [Act.put, PL]
            have gYhm := hm.size
            refine at_anyH (fun v => GB (fun _ => False) V5 v ∧ BK v (wb0.heap.size) [.slice none 0 0, .slice none 0 0] ∧ BK v (wb120.heap.size) [.int .i64 0, .int .i64 0] ∧ Mid wb119.heap.size wb120 v) ⟨hHeld, BX.al _, BK.new _ _ _, hm.al _⟩ (fun wb125 hS => ?_)
            clear hHeld BX hm
            obtain ⟨hHeld, BX, BY, hm⟩ := hS
            refine wpAnyH_ready (rs := [10]) (by kernel_rfl) (by simp) (AllReadyH.cons (o := _) rfl (fun K hK => ?_) AllReadyH.nil)
            have n0 := BX.c 0 rfl
            have f0 := BX.f 0 rfl
            have n1 := BX.c 1 rfl
            have f1 := BX.f 1 rfl
            go_simp
            clear n0 f0 n1 f1
            refine hK.out _ _ ((hHeld.set (.inr hX) _).set (.inr hX) _) (fun hNew => ?_)
            clear hHeld hK K
            have hHeld := hNew
            clear hNew
            try simp only [Act.put, PL]
            refine at_anyH (fun v => GB (fun _ => False) V5 v ∧ BK v (wb0.heap.size) [.slice A2 2 ca2, .slice Q2 2 cq2] ∧ BK v (wb120.heap.size) [.int .i64 0, .int .i64 0] ∧ Mid wb119.heap.size wb120 v) ⟨hHeld, ((BX.set 0 _).set 1 _), ((BY.far (by omega) _ _).far (by omega) _ _), ((hm.set (by omega) _).set (by omega) _)⟩ (fun wb126 hS => ?_)
            clear hHeld BX BY hm
            obtain ⟨hHeld, BX, BY, hm⟩ := hS
            refine wpAnyH_ready (rs := [11]) (by kernel_rfl) (by simp) (AllReadyH.cons (o := _) rfl (fun K hK => ?_) AllReadyH.nil)
            have n0 := BY.c 0 rfl
            have f0 := BY.f 0 rfl
            have n1 := BY.c 1 rfl
            have f1 := BY.f 1 rfl
            go_simp
            clear n0 f0 n1 f1
            refine hK.out _ _ ((hHeld.set (.inr hY) _).set (.inr hY) _) (fun hNew => ?_)
            clear hHeld hK K
            have hHeld := hNew
            clear hNew
            try simp only [Act.put, PL]
            refine at_anyH (fun v => GB (fun _ => False) V5 v ∧ BK v (wb0.heap.size) [.slice A2 2 ca2, .slice Q2 2 cq2] ∧ BK v (wb120.heap.size) [.int .i64 1, .int .i64 3] ∧ Mid wb119.heap.size wb120 v) ⟨hHeld, ((BX.far (by omega) _ _).far (by omega) _ _), ((BY.set 0 _).set 1 _), ((hm.set (by omega) _).set (by omega) _)⟩ (fun wb127 hS => ?_)
            clear hHeld BX BY hm
            obtain ⟨hHeld, BX, BY, hm⟩ := hS
            refine wpAnyH_take (i := 12) (oi := _) (v := ?vb128) rfl (by kernel_rfl) (by kernel_rfl) (by kernel_rfl) (fun _ _ _ h => h) (Or.inl ⟨by kernel_rfl, ?hyb128⟩) hHeld ?restb128
            case hyb128 => (intro w hSw; go_simp; first | done | (with_reducible rfl))
            try simp only [Act.put, PL]
            refine wpAnyH_done (by kernel_rfl) ?_ _
            go_wp2_with fail
            go_meet
            exact ⟨_, _, A2, ca2, l2, Q2, cq2, rfl, rfl, rfl, hl2, hd2, (hfd2.mid hm).isCs, (hfd2.mid hm).isQs, BX, BY, BY1.gb hHeld (fun h => h), hHeld.toBelow hbb (fun k hk => hk.elim) hBV⟩
           · as_aux_lemma =>
            go_simp
            refine hK.out _ _ (hHeld.al _) (fun hNew => ?_)
            have hY : V5.heap.size ≤ wb119.heap.size := hHeld.size
            have dXY := BX.lt
            clear hHeld hK K
            have hHeld := hNew
            clear hNew
            try simp only [Act.put, PL]
            refine at_anyH (fun v => GB (fun _ => False) V5 v ∧ BK v (wb0.heap.size) [.slice none 0 0, .slice none 0 0] ∧ BK v (wb119.heap.size) [.int .i64 0, .int .i64 0]) ⟨hHeld, BX.al _, BK.new _ _ _⟩ (fun wb129 hS => ?_)
            clear hHeld BX
            obtain ⟨hHeld, BX, BY⟩ := hS
            refine wpAnyH_ready (rs := [3]) (by kernel_rfl) (by simp) (AllReadyH.cons (o := _) rfl (fun K hK => ?_) AllReadyH.nil)
            go_simp
            refine (MK.out _ (hHeld.toBelow (Below.refl _ _) (fun k hk => hk.elim) (Nat.le_refl _))).mono ?_
            rintro e wb130 ⟨hb3, A2, ca2, l2, Q2, cq2, rfl, hl2, hd2, hfd2⟩
            have hm := Mid.refl wb129.heap.size wb130
            go_wp2_with fail
            refine hK.out _ _ (hHeld.below hb3) (fun hNew => ?_)
            have cX := BX.lt
            replace BX := BX.keep hb3
            have cY := BY.lt
            replace BY := BY.keep hb3
            clear hb3
            clear hHeld hK K
            have hHeld := hNew
            clear hNew
            try simp only [Act.put, PL]
            refine wpAnyH_take (i := 4) (oi := _) (v := ?vb131) rfl (by kernel_rfl) (by kernel_rfl) (by kernel_rfl) (fun _ _ _ h => h) (Or.inl ⟨by kernel_rfl, ?hyb131⟩) hHeld ?restb131
            case hyb131 => (intro w hSw; go_simp; first | done | (with_reducible rfl))
            try simp only [Act.put, PL]
            refine wpAnyH_take (i := 5) (oi := _) (v := ?vb132) rfl (by kernel_rfl) (by kernel_rfl) (by kernel_rfl) (fun _ _ _ h => h) (Or.inl ⟨by kernel_rfl, ?hyb132⟩) hHeld ?restb132
            case hyb132 => (intro w hSw; go_simp; first | done | (with_reducible rfl))
            try simp only [Act.put, PL]
            refine wpAnyH_take (i := 6) (oi := _) (v := ?vb133) rfl (by kernel_rfl) (by kernel_rfl) (by kernel_rfl) (fun _ _ _ h => h) (Or.inl ⟨by kernel_rfl, ?hyb133⟩) hHeld ?restb133
            case hyb133 => (intro w hSw; go_simp; first | done | (with_reducible rfl))
            try simp only [Act.put, PL]
            refine wpAnyH_take (i := 7) (oi := _) (v := ?vb134) rfl (by kernel_rfl) (by kernel_rfl) (by kernel_rfl) (fun _ _ _ h => h) (Or.inl ⟨by kernel_rfl, ?hyb134⟩) hHeld ?restb134
            case hyb134 => (intro w hSw; go_simp; first | done | (with_reducible rfl))
            try simp only [Act.put, PL]
            refine wpAnyH_ready (rs := [10]) (by kernel_rfl) (by simp) (AllReadyH.cons (o := _) rfl (fun K hK => ?_) AllReadyH.nil)
            have n0 := BX.c 0 rfl
            have f0 := BX.f 0 rfl
            have n1 := BX.c 1 rfl
            have f1 := BX.f 1 rfl
            go_simp
            clear n0 f0 n1 f1
            refine hK.out _ _ ((hHeld.set (.inr hX) _).set (.inr hX) _) (fun hNew => ?_)
            clear hHeld hK K
            have hHeld := hNew
            clear hNew
            try simp only [Act.put, PL]
            refine at_anyH (fun v => GB (fun _ => False) V5 v ∧ BK v (wb0.heap.size) [.slice A2 2 ca2, .slice Q2 2 cq2] ∧ BK v (wb119.heap.size) [.int .i64 0, .int .i64 0] ∧ Mid wb129.heap.size wb130 v) ⟨hHeld, ((BX.set 0 _).set 1 _), ((BY.far (by omega) _ _).far (by omega) _ _), ((hm.set (by omega) _).set (by omega) _)⟩ (fun wb135 hS => ?_)
            clear hHeld BX BY hm
            obtain ⟨hHeld, BX, BY, hm⟩ := hS
            refine wpAnyH_ready (rs := [11]) (by kernel_rfl) (by simp) (AllReadyH.cons (o := _) rfl (fun K hK => ?_) AllReadyH.nil)
            have n0 := BY.c 0 rfl
            have f0 := BY.f 0 rfl
            have n1 := BY.c 1 rfl
            have f1 := BY.f 1 rfl
            go_simp
            clear n0 f0 n1 f1
            refine hK.out _ _ ((hHeld.set (.inr hY) _).set (.inr hY) _) (fun hNew => ?_)
            clear hHeld hK K
            have hHeld := hNew
            clear hNew
            try simp only [Act.put, PL]
            refine at_anyH (fun v => GB (fun _ => False) V5 v ∧ BK v (wb0.heap.size) [.slice A2 2 ca2, .slice Q2 2 cq2] ∧ BK v (wb119.heap.size) [.int .i64 1, .int .i64 3] ∧ Mid wb129.heap.size wb130 v) ⟨hHeld, ((BX.far (by omega) _ _).far (by omega) _ _), ((BY.set 0 _).set 1 _), ((hm.set (by omega) _).set (by omega) _)⟩ (fun wb136 hS => ?_)
            clear hHeld BX BY hm
            obtain ⟨hHeld, BX, BY, hm⟩ := hS
            refine wpAnyH_take (i := 12) (oi := _) (v := ?vb137) rfl (by kernel_rfl) (by kernel_rfl) (by kernel_rfl) (fun _ _ _ h => h) (Or.inl ⟨by kernel_rfl, ?hyb137⟩) hHeld ?restb137
            case hyb137 => (intro w hSw; go_simp; first | done | (with_reducible rfl))
            try simp only [Act.put, PL]
            refine wpAnyH_done (by kernel_rfl) ?_ _
            go_wp2_with fail
            go_meet
            exact ⟨_, _, A2, ca2, l2, Q2, cq2, rfl, rfl, rfl, hl2, hd2, (hfd2.mid hm).isCs, (hfd2.mid hm).isQs, BX, BY, BY1.gb hHeld (fun h => h), hHeld.toBelow hbb (fun k hk => hk.elim) hBV⟩
          · as_aux_lemma =>
           go_simp
           refine hK.out _ _ (hHeld.al _) (fun hNew => ?_)
           have hY : V5.heap.size ≤ wb118.heap.size := hHeld.size
           have dXY := BX.lt
           clear hHeld hK K
           have hHeld := hNew
           clear hNew
           try simp only [Act.put, PL]
           refine at_anyH (fun v => GB (fun _ => False) V5 v ∧ BK v (wb0.heap.size) [.slice none 0 0, .slice none 0 0] ∧ BK v (wb118.heap.size) [.int .i64 0, .int .i64 0]) ⟨hHeld, BX.al _, BK.new _ _ _⟩ (fun wb138 hS => ?_)
           clear hHeld BX
           obtain ⟨hHeld, BX, BY⟩ := hS
           refine wpAnyH_ready (rs := [2]) (by kernel_rfl) (by simp) (AllReadyH.cons (o := _) rfl (fun K hK => ?_) AllReadyH.nil)
           go_simp
           refine (of4_any 1 _).mono ?_
           rintro e wb139 ⟨rfl, hb3⟩
           go_wp2_with fail
           refine hK.out _ _ (hHeld.below hb3) (fun hNew => ?_)
           replace BX := BX.keep hb3
           replace BY := BY.keep hb3
           clear hb3
           clear hHeld hK K
           have hHeld := hNew
           clear hNew
           try simp only [Act.put, PL]
           refine wpAnyH_ready (rs := [3]) (by kernel_rfl) (by simp) (AllReadyH.cons (o := _) rfl (fun K hK => ?_) AllReadyH.nil)
           go_simp
           refine (MK.out _ (hHeld.toBelow (Below.refl _ _) (fun k hk => hk.elim) (Nat.le_refl _))).mono ?_
           rintro e wb140 ⟨hb3, A2, ca2, l2, Q2, cq2, rfl, hl2, hd2, hfd2⟩
           have hm := Mid.refl wb139.heap.size wb140
           go_wp2_with fail
           refine hK.out _ _ (hHeld.below hb3) (fun hNew => ?_)
           have cX := BX.lt
           replace BX := BX.keep hb3
           have cY := BY.lt
           replace BY := BY.keep hb3
           clear hb3
           clear hHeld hK K
           have hHeld := hNew
           clear hNew
           try simp only [Act.put, PL]
           refine wpAnyH_take (i := 4) (oi := _) (v := ?vb141) rfl (by kernel_rfl) (by kernel_rfl) (by kernel_rfl) (fun _ _ _ h => h) (Or.inl ⟨by kernel_rfl, ?hyb141⟩) hHeld ?restb141
           case hyb141 => (intro w hSw; go_simp; first | done | (with_reducible rfl))
           try simp only [Act.put, PL]
           refine wpAnyH_take (i := 5) (oi := _) (v := ?vb142) rfl (by kernel_rfl) (by kernel_rfl) (by kernel_rfl) (fun _ _ _ h => h) (Or.inl ⟨by kernel_rfl, ?hyb142⟩) hHeld ?restb142
           case hyb142 => (intro w hSw; go_simp; first | done | (with_reducible rfl))
           try simp only [Act.put, PL]
           refine wpAnyH_take (i := 6) (oi := _) (v := ?vb143) rfl (by kernel_rfl) (by kernel_rfl) (by kernel_rfl) (fun _ _ _ h => h) (Or.inl ⟨by kernel_rfl, ?hyb143⟩) hHeld ?restb143
           case hyb143 => (intro w hSw; go_simp; first | done | (with_reducible rfl))
           try simp only [Act.put, PL]
           refine wpAnyH_take (i := 7) (oi := _) (v := ?vb144) rfl (by kernel_rfl) (by kernel_rfl) (by kernel_rfl) (fun _ _ _ h => h) (Or.inl ⟨by kernel_rfl, ?hyb144⟩) hHeld ?restb144
           case hyb144 => (intro w hSw; go_simp; first | done | (with_reducible rfl))
           try simp only [Act.put, PL]
           refine wpAnyH_ready (rs := [10]) (by kernel_rfl) (by simp) (AllReadyH.cons (o := _) rfl (fun K hK => ?_) AllReadyH.nil)
           have n0 := BX.c 0 rfl
           have f0 := BX.f 0 rfl
           have n1 := BX.c 1 rfl
           have f1 := BX.f 1 rfl
           go_simp
           clear n0 f0 n1 f1
           refine hK.out _ _ ((hHeld.set (.inr hX) _).set (.inr hX) _) (fun hNew => ?_)
           clear hHeld hK K
           have hHeld := hNew
           clear hNew
           try simp only [Act.put, PL]
           refine at_anyH (fun v => GB (fun _ => False) V5 v ∧ BK v (wb0.heap.size) [.slice A2 2 ca2, .slice Q2 2 cq2] ∧ BK v (wb118.heap.size) [.int .i64 0, .int .i64 0] ∧ Mid wb139.heap.size wb140 v) ⟨hHeld, ((BX.set 0 _).set 1 _), ((BY.far (by omega) _ _).far (by omega) _ _), ((hm.set (by omega) _).set (by omega) _)⟩ (fun wb145 hS => ?_)
           clear hHeld BX BY hm
           obtain ⟨hHeld, BX, BY, hm⟩ := hS
           refine wpAnyH_ready (rs := [11]) (by kernel_rfl) (by simp) (AllReadyH.cons (o := _) rfl (fun K hK => ?_) AllReadyH.nil)
           have n0 := BY.c 0 rfl
           have f0 := BY.f 0 rfl
           have n1 := BY.c 1 rfl
           have f1 := BY.f 1 rfl
           go_simp
           clear n0 f0 n1 f1
           refine hK.out _ _ ((hHeld.set (.inr hY) _).set (.inr hY) _) (fun hNew => ?_)
           clear hHeld hK K
           have hHeld := hNew
           clear hNew
           try simp only [Act.put, PL]
           refine at_anyH (fun v => GB (fun _ => False) V5 v ∧ BK v (wb0.heap.size) [.slice A2 2 ca2, .slice Q2 2 cq2] ∧ BK v (wb118.heap.size) [.int .i64 1, .int .i64 3] ∧ Mid wb139.heap.size wb140 v) ⟨hHeld, ((BX.far (by omega) _ _).far (by omega) _ _), ((BY.set 0 _).set 1 _), ((hm.set (by omega) _).set (by omega) _)⟩ (fun wb146 hS => ?_)
           clear hHeld BX BY hm
           obtain ⟨hHeld, BX, BY, hm⟩ := hS
           refine wpAnyH_take (i := 12) (oi := _) (v := ?vb147) rfl (by kernel_rfl) (by kernel_rfl) (by kernel_rfl) (fun _ _ _ h => h) (Or.inl ⟨by kernel_rfl, ?hyb147⟩) hHeld ?restb147
           case hyb147 => (intro w hSw; go_simp; first | done | (with_reducible rfl))
           try simp only [Act.put, PL]
           refine wpAnyH_done (by kernel_rfl) ?_ _
           go_wp2_with fail
           go_meet
           exact ⟨_, _, A2, ca2, l2, Q2, cq2, rfl, rfl, rfl, hl2, hd2, (hfd2.mid hm).isCs, (hfd2.mid hm).isQs, BX, BY, BY1.gb hHeld (fun h => h), hHeld.toBelow hbb (fun k hk => hk.elim) hBV⟩
         · as_aux_lemma =>
          go_simp
          refine hK.out _ _ (hHeld.al _) (fun hNew => ?_)
          have hY : V5.heap.size ≤ wb117.heap.size := hHeld.size
          have dXY := BX.lt
          clear hHeld hK K
          have hHeld := hNew
          clear hNew
          try simp only [Act.put, PL]
          refine at_anyH (fun v => GB (fun _ => False) V5 v ∧ BK v (wb0.heap.size) [.slice none 0 0, .slice none 0 0] ∧ BK v (wb117.heap.size) [.int .i64 0, .int .i64 0]) ⟨hHeld, BX.al _, BK.new _ _ _⟩ (fun wb148 hS => ?_)
          clear hHeld BX
          obtain ⟨hHeld, BX, BY⟩ := hS
          refine wpAnyH_ready (rs := [1]) (by kernel_rfl) (by simp) (AllReadyH.cons (o := _) rfl (fun K hK => ?_) AllReadyH.nil)
          go_simp
          refine (of4_any 0 _).mono ?_
          rintro e wb149 ⟨rfl, hb3⟩
          go_wp2_with fail
          refine hK.out _ _ (hHeld.below hb3) (fun hNew => ?_)
          replace BX := BX.keep hb3
          replace BY := BY.keep hb3
          clear hb3
          clear hHeld hK K
          have hHeld := hNew
          clear hNew
          try simp only [Act.put, PL]
          refine wpAnyH_ready (rs := [2]) (by kernel_rfl) (by simp) (AllReadyH.cons (o := _) rfl (fun K hK => ?_) AllReadyH.nil)
          go_simp
          refine (of4_any 1 _).mono ?_
          rintro e wb150 ⟨rfl, hb3⟩
          go_wp2_with fail
          refine hK.out _ _ (hHeld.below hb3) (fun hNew => ?_)
          replace BX := BX.keep hb3
          replace BY := BY.keep hb3
          clear hb3
          clear hHeld hK K
          have hHeld := hNew
          clear hNew
          try simp only [Act.put, PL]
          refine wpAnyH_ready (rs := [3]) (by kernel_rfl) (by simp) (AllReadyH.cons (o := _) rfl (fun K hK => ?_) AllReadyH.nil)
          go_simp
          refine (MK.out _ (hHeld.toBelow (Below.refl _ _) (fun k hk => hk.elim) (Nat.le_refl _))).mono ?_
          rintro e wb151 ⟨hb3, A2, ca2, l2, Q2, cq2, rfl, hl2, hd2, hfd2⟩
          have hm := Mid.refl wb150.heap.size wb151
          go_wp2_with fail
          refine hK.out _ _ (hHeld.below hb3) (fun hNew => ?_)
          have cX := BX.lt
          replace BX := BX.keep hb3
          have cY := BY.lt
          replace BY := BY.keep hb3
          clear hb3
          clear hHeld hK K
          have hHeld := hNew
          clear hNew
          try simp only [Act.put, PL]
          refine wpAnyH_take (i := 4) (oi := _) (v := ?vb152) rfl (by kernel_rfl) (by kernel_rfl) (by kernel_rfl) (fun _ _ _ h => h) (Or.inl ⟨by kernel_rfl, ?hyb152⟩) hHeld ?restb152
          case hyb152 => (intro w hSw; go_simp; first | done | (with_reducible rfl))
          try simp only [Act.put, PL]
          refine wpAnyH_take (i := 5) (oi := _) (v := ?vb153) rfl (by kernel_rfl) (by kernel_rfl) (by kernel_rfl) (fun _ _ _ h => h) (Or.inl ⟨by kernel_rfl, ?hyb153⟩) hHeld ?restb153
          case hyb153 => (intro w hSw; go_simp; first | done | (with_reducible rfl))
          try simp only [Act.put, PL]
          refine wpAnyH_take (i := 6) (oi := _) (v := ?vb154) rfl (by kernel_rfl) (by kernel_rfl) (by kernel_rfl) (fun _ _ _ h => h) (Or.inl ⟨by kernel_rfl, ?hyb154⟩) hHeld ?restb154
          case hyb154 => (intro w hSw; go_simp; first | done | (with_reducible rfl))
          try simp only [Act.put, PL]
          refine wpAnyH_take (i := 7) (oi := _) (v := ?vb155) rfl (by kernel_rfl) (by kernel_rfl) (by kernel_rfl) (fun _ _ _ h => h) (Or.inl ⟨by kernel_rfl, ?hyb155⟩) hHeld ?restb155
          case hyb155 => (intro w hSw; go_simp; first | done | (with_reducible rfl))
          try simp only [Act.put, PL]
          refine wpAnyH_ready (rs := [10]) (by kernel_rfl) (by simp) (AllReadyH.cons (o := _) rfl (fun K hK => ?_) AllReadyH.nil)
          have n0 := BX.c 0 rfl
          have f0 := BX.f 0 rfl
          have n1 := BX.c 1 rfl
          have f1 := BX.f 1 rfl
          go_simp
          clear n0 f0 n1 f1
          refine hK.out _ _ ((hHeld.set (.inr hX) _).set (.inr hX) _) (fun hNew => ?_)
          clear hHeld hK K
          have hHeld := hNew
          clear hNew
          try simp only [Act.put, PL]
          refine at_anyH (fun v => GB (fun _ => False) V5 v ∧ BK v (wb0.heap.size) [.slice A2 2 ca2, .slice Q2 2 cq2] ∧ BK v (wb117.heap.size) [.int .i64 0, .int .i64 0] ∧ Mid wb150.heap.size wb151 v) ⟨hHeld, ((BX.set 0 _).set 1 _), ((BY.far (by omega) _ _).far (by omega) _ _), ((hm.set (by omega) _).set (by omega) _)⟩ (fun wb156 hS => ?_)
          clear hHeld BX BY hm
          obtain ⟨hHeld, BX, BY, hm⟩ := hS
          refine wpAnyH_ready (rs := [11]) (by kernel_rfl) (by simp) (AllReadyH.cons (o := _) rfl (fun K hK => ?_) AllReadyH.nil)
          have n0 := BY.c 0 rfl
          have f0 := BY.f 0 rfl
          have n1 := BY.c 1 rfl
          have f1 := BY.f 1 rfl
          go_simp
          clear n0 f0 n1 f1
          refine hK.out _ _ ((hHeld.set (.inr hY) _).set (.inr hY) _) (fun hNew => ?_)
          clear hHeld hK K
          have hHeld := hNew
          clear hNew
          try simp only [Act.put, PL]
          refine at_anyH (fun v => GB (fun _ => False) V5 v ∧ BK v (wb0.heap.size) [.slice A2 2 ca2, .slice Q2 2 cq2] ∧ BK v (wb117.heap.size) [.int .i64 1, .int .i64 3] ∧ Mid wb150.heap.size wb151 v) ⟨hHeld, ((BX.far (by omega) _ _).far (by omega) _ _), ((BY.set 0 _).set 1 _), ((hm.set (by omega) _).set (by omega) _)⟩ (fun wb157 hS => ?_)
          clear hHeld BX BY hm
          obtain ⟨hHeld, BX, BY, hm⟩ := hS
          refine wpAnyH_take (i := 12) (oi := _) (v := ?vb158) rfl (by kernel_rfl) (by kernel_rfl) (by kernel_rfl) (fun _ _ _ h => h) (Or.inl ⟨by kernel_rfl, ?hyb158⟩) hHeld ?restb158
          case hyb158 => (intro w hSw; go_simp; first | done | (with_reducible rfl))
          try simp only [Act.put, PL]
          refine wpAnyH_done (by kernel_rfl) ?_ _
          go_wp2_with fail
          go_meet
          exact ⟨_, _, A2, ca2, l2, Q2, cq2, rfl, rfl, rfl, hl2, hd2, (hfd2.mid hm).isCs, (hfd2.mid hm).isQs, BX, BY, BY1.gb hHeld (fun h => h), hHeld.toBelow hbb (fun k hk => hk.elim) hBV⟩
        · as_aux_lemma =>
         go_simp
         refine hK.out _ _ (hHeld.al _) (fun hNew => ?_)
         have hY : V5.heap.size ≤ wb0.heap.size := hHeld.size
         clear hHeld hK K
         have hHeld := hNew
         clear hNew
         try simp only [Act.put, PL]
         refine at_anyH (fun v => GB (fun _ => False) V5 v ∧ BK v (wb0.heap.size) [.int .i64 0, .int .i64 0]) ⟨hHeld, BK.new _ _ _⟩ (fun wb159 hS => ?_)
         clear hHeld
         obtain ⟨hHeld, BY⟩ := hS
         refine wpAnyH_ready (rs := [1, 8]) (by kernel_rfl) (by simp) (AllReadyH.cons (o := _) rfl (fun K hK => ?_) (AllReadyH.cons (o := _) rfl (fun K hK => ?_) AllReadyH.nil))
         · as_aux_lemma =>
          go_simp
          refine (of4_any 0 _).mono ?_
          rintro e wb160 ⟨rfl, hb3⟩
          go_wp2_with fail
          refine hK.out _ _ (hHeld.below hb3) (fun hNew => ?_)
          replace BY := BY.keep hb3
          clear hb3
          clear hHeld hK K
          have hHeld := hNew
          clear hNew
          try simp only [Act.put, PL]
          refine wpAnyH_ready (rs := [2, 8]) (by kernel_rfl) (by simp) (AllReadyH.cons (o := _) rfl (fun K hK => ?_) (AllReadyH.cons (o := _) rfl (fun K hK => ?_) AllReadyH.nil))
          · as_aux_lemma =>
           go_simp
           refine (of4_any 1 _).mono ?_
           rintro e wb161 ⟨rfl, hb3⟩
           go_wp2_with fail
           refine hK.out _ _ (hHeld.below hb3) (fun hNew => ?_)
           replace BY := BY.keep hb3
           clear hb3
           clear hHeld hK K
           have hHeld := hNew
           clear hNew
           try simp only [Act.put, PL]
           refine wpAnyH_ready (rs := [3, 8]) (by kernel_rfl) (by simp) (AllReadyH.cons (o := _) rfl (fun K hK => ?_) (AllReadyH.cons (o := _) rfl (fun K hK => ?_) AllReadyH.nil))
           · as_aux_lemma =>
            go_simp
            refine (MK.out _ (hHeld.toBelow (Below.refl _ _) (fun k hk => hk.elim) (Nat.le_refl _))).mono ?_
            rintro e wb162 ⟨hb3, A2, ca2, l2, Q2, cq2, rfl, hl2, hd2, hfd2⟩
            have hm := Mid.refl wb161.heap.size wb162
            go_wp2_with fail
            refine hK.out _ _ (hHeld.below hb3) (fun hNew => ?_)
            have cY := BY.lt
            replace BY := BY.keep hb3
            clear hb3
            clear hHeld hK K
            have hHeld := hNew
            clear hNew
            try simp only [Act.put, PL]
            refine wpAnyH_take (i := 4) (oi := _) (v := ?vb163) rfl (by kernel_rfl) (by kernel_rfl) (by kernel_rfl) (fun _ _ _ h => h) (Or.inl ⟨by kernel_rfl, ?hyb163⟩) hHeld ?restb163
            case hyb163 => (intro w hSw; go_simp; first | done | (with_reducible rfl))
            try simp only [Act.put, PL]
            refine wpAnyH_take (i := 5) (oi := _) (v := ?vb164) rfl (by kernel_rfl) (by kernel_rfl) (by kernel_rfl) (fun _ _ _ h => h) (Or.inl ⟨by kernel_rfl, ?hyb164⟩) hHeld ?restb164
            case hyb164 => (intro w hSw; go_simp; first | done | (with_reducible rfl))
            try simp only [Act.put, PL]
            refine wpAnyH_take (i := 6) (oi := _) (v := ?vb165) rfl (by kernel_rfl) (by kernel_rfl) (by kernel_rfl) (fun _ _ _ h => h) (Or.inl ⟨by kernel_rfl, ?hyb165⟩) hHeld ?restb165
            case hyb165 => (intro w hSw; go_simp; first | done | (with_reducible rfl))
            try simp only [Act.put, PL]
            refine wpAnyH_take (i := 7) (oi := _) (v := ?vb166) rfl (by kernel_rfl) (by kernel_rfl) (by kernel_rfl) (fun _ _ _ h => h) (Or.inl ⟨by kernel_rfl, ?hyb166⟩) hHeld ?restb166
            case hyb166 => (intro w hSw; go_simp; first | done | (with_reducible rfl))
            try simp only [Act.put, PL]
            refine wpAnyH_ready (rs := [8]) (by kernel_rfl) (by simp) (AllReadyH.cons (o := _) rfl (fun K hK => ?_) AllReadyH.nil)
            go_simp
            refine hK.out _ _ (hHeld.al _) (fun hNew => ?_)
            have hX : V5.heap.size ≤ wb162.heap.size := hHeld.size
            have dYX := BY.lt
            clear hHeld hK K
            have hHeld := hNew
            clear hNew
            try simp only [Act.put, PL]
            have gXhm := hm.size
            refine at_anyH (fun v => GB (fun _ => False) V5 v ∧ BK v (wb0.heap.size) [.int .i64 0, .int .i64 0] ∧ BK v (wb162.heap.size) [.slice none 0 0, .slice none 0 0] ∧ Mid wb161.heap.size wb162 v) ⟨hHeld, BY.al _, BK.new _ _ _, hm.al _⟩ (fun wb167 hS => ?_)
            clear hHeld BY hm
            obtain ⟨hHeld, BY, BX, hm⟩ := hS
            refine wpAnyH_ready (rs := [10]) (by kernel_rfl) (by simp) (AllReadyH.cons (o := _) rfl (fun K hK => ?_) AllReadyH.nil)
            have n0 := BX.c 0 rfl
            have f0 := BX.f 0 rfl
            have n1 := BX.c 1 rfl
            have f1 := BX.f 1 rfl
            go_simp
            clear n0 f0 n1 f1
            refine hK.out _ _ ((hHeld.set (.inr hX) _).set (.inr hX) _) (fun hNew => ?_)
            clear hHeld hK K
            have hHeld := hNew
            clear hNew
            try simp only [Act.put, PL]
            refine at_anyH (fun v => GB (fun _ => False) V5 v ∧ BK v (wb0.heap.size) [.int .i64 0, .int .i64 0] ∧ BK v (wb162.heap.size) [.slice A2 2 ca2, .slice Q2 2 cq2] ∧ Mid wb161.heap.size wb162 v) ⟨hHeld, ((BY.far (by omega) _ _).far (by omega) _ _), ((BX.set 0 _).set 1 _), ((hm.set (by omega) _).set (by omega) _)⟩ (fun wb168 hS => ?_)
            clear hHeld BY BX hm
            obtain ⟨hHeld, BY, BX, hm⟩ := hS
            refine wpAnyH_ready (rs := [11]) (by kernel_rfl) (by simp) (AllReadyH.cons (o := _) rfl (fun K hK => ?_) AllReadyH.nil)
            have n0 := BY.c 0 rfl
            have f0 := BY.f 0 rfl
            have n1 := BY.c 1 rfl
            have f1 := BY.f 1 rfl
            go_simp
            clear n0 f0 n1 f1
            refine hK.out _ _ ((hHeld.set (.inr hY) _).set (.inr hY) _) (fun hNew => ?_)
            clear hHeld hK K
            have hHeld := hNew
            clear hNew
            try simp only [Act.put, PL]
            refine at_anyH (fun v => GB (fun _ => False) V5 v ∧ BK v (wb0.heap.size) [.int .i64 1, .int .i64 3] ∧ BK v (wb162.heap.size) [.slice A2 2 ca2, .slice Q2 2 cq2] ∧ Mid wb161.heap.size wb162 v) ⟨hHeld, ((BY.set 0 _).set 1 _), ((BX.far (by omega) _ _).far (by omega) _ _), ((hm.set (by omega) _).set (by omega) _)⟩ (fun wb169 hS => ?_)
            clear hHeld BY BX hm
            obtain ⟨hHeld, BY, BX, hm⟩ := hS
            refine wpAnyH_take (i := 12) (oi := _) (v := ?vb170) rfl (by kernel_rfl) (by kernel_rfl) (by kernel_rfl) (fun _ _ _ h => h) (Or.inl ⟨by kernel_rfl, ?hyb170⟩) hHeld ?restb170
            case hyb170 => (intro w hSw; go_simp; first | done | (with_reducible rfl))
            try simp only [Act.put, PL]
            refine wpAnyH_done (by kernel_rfl) ?_ _
            go_wp2_with fail
            go_meet
            exact ⟨_, _, A2, ca2, l2, Q2, cq2, rfl, rfl, rfl, hl2, hd2, (hfd2.mid hm).isCs, (hfd2.mid hm).isQs, BX, BY, BY1.gb hHeld (fun h => h), hHeld.toBelow hbb (fun k hk => hk.elim) hBV⟩
           · as_aux_lemma =>
            go_simp
            refine hK.out _ _ (hHeld.al _) (fun hNew => ?_)
            have hX : V5.heap.size ≤ wb161.heap.size := hHeld.size
            have dYX := BY.lt
            clear hHeld hK K
            have hHeld := hNew
            clear hNew
            try simp only [Act.put, PL]
            refine at_anyH (fun v => GB (fun _ => False) V5 v ∧ BK v (wb0.heap.size) [.int .i64 0, .int .i64 0] ∧ BK v (wb161.heap.size) [.slice none 0 0, .slice none 0 0]) ⟨hHeld, BY.al _, BK.new _ _ _⟩ (fun wb171 hS => ?_)
            clear hHeld BY
            obtain ⟨hHeld, BY, BX⟩ := hS
            refine wpAnyH_ready (rs := [3]) (by kernel_rfl) (by simp) (AllReadyH.cons (o := _) rfl (fun K hK => ?_) AllReadyH.nil)
            go_simp
            refine (MK.out _ (hHeld.toBelow (Below.refl _ _) (fun k hk => hk.elim) (Nat.le_refl _))).mono ?_
            rintro e wb172 ⟨hb3, A2, ca2, l2, Q2, cq2, rfl, hl2, hd2, hfd2⟩
            have hm := Mid.refl wb171.heap.size wb172
            go_wp2_with fail
            refine hK.out _ _ (hHeld.below hb3) (fun hNew => ?_)
            have cY := BY.lt
            replace BY := BY.keep hb3
            have cX := BX.lt
            replace BX := BX.keep hb3
            clear hb3
            clear hHeld hK K
            have hHeld := hNew
            clear hNew
            try simp only [Act.put, PL]
            refine wpAnyH_take (i := 4) (oi := _) (v := ?vb173) rfl (by kernel_rfl) (by kernel_rfl) (by kernel_rfl) (fun _ _ _ h => h) (Or.inl ⟨by kernel_rfl, ?hyb173⟩) hHeld ?restb173
            case hyb173 => (intro w hSw; go_simp; first | done | (with_reducible rfl))
            try simp only [Act.put, PL]
            refine wpAnyH_take (i := 5) (oi := _) (v := ?vb174) rfl (by kernel_rfl) (by kernel_rfl) (by kernel_rfl) (fun _ _ _ h => h) (Or.inl ⟨by kernel_rfl, ?hyb174⟩) hHeld ?restb174
            case hyb174 => (intro w hSw; go_simp; first | done | (with_reducible rfl))
            try simp only [Act.put, PL]
            refine wpAnyH_take (i := 6) (oi := _) (v := ?vb175) rfl (by kernel_rfl) (by kernel_rfl) (by kernel_rfl) (fun _ _ _ h => h) (Or.inl ⟨by kernel_rfl, ?hyb175⟩) hHeld ?restb175
            case hyb175 => (intro w hSw; go_simp; first | done | (with_reducible rfl))
            try simp only [Act.put, PL]
            refine wpAnyH_take (i := 7) (oi := _) (v := ?vb176) rfl (by kernel_rfl) (by kernel_rfl) (by kernel_rfl) (fun _ _ _ h => h) (Or.inl ⟨by kernel_rfl, ?hyb176⟩) hHeld ?restb176
            case hyb176 => (intro w hSw; go_simp; first | done | (with_reducible rfl))
            try simp only [Act.put, PL]
            refine wpAnyH_ready (rs := [10]) (by kernel_rfl) (by simp) (AllReadyH.cons (o := _) rfl (fun K hK => ?_) AllReadyH.nil)
            have n0 := BX.c 0 rfl
            have f0 := BX.f 0 rfl
            have n1 := BX.c 1 rfl
            have f1 := BX.f 1 rfl
            go_simp
            clear n0 f0 n1 f1
            refine hK.out _ _ ((hHeld.set (.inr hX) _).set (.inr hX) _) (fun hNew => ?_)
            clear hHeld hK K
            have hHeld := hNew
            clear hNew
            try simp only [Act.put, PL]
            refine at_anyH (fun v => GB (fun _ => False) V5 v ∧ BK v (wb0.heap.size) [.int .i64 0, .int .i64 0] ∧ BK v (wb161.heap.size) [.slice A2 2 ca2, .slice Q2 2 cq2] ∧ Mid wb171.heap.size wb172 v) ⟨hHeld, ((BY.far (by omega) _ _).far (by omega) _ _), ((BX.set 0 _).set 1 _), ((hm.set (by omega) _).set (by omega) _)⟩ (fun wb177 hS => ?_)
            clear hHeld BY BX hm
            obtain ⟨hHeld, BY, BX, hm⟩ := hS
            refine wpAnyH_ready (rs := [11]) (by kernel_rfl) (by simp) (AllReadyH.cons (o := _) rfl (fun K hK => ?_) AllReadyH.nil)
            have n0 := BY.c 0 rfl
            have f0 := BY.f 0 rfl
            have n1 := BY.c 1 rfl
            have f1 := BY.f 1 rfl
            go_simp
            clear n0 f0 n1 f1
            refine hK.out _ _ ((hHeld.set (.inr hY) _).set (.inr hY) _) (fun hNew => ?_)
            clear hHeld hK K
            have hHeld := hNew
            clear hNew
            try simp only [Act.put, PL]
            refine at_anyH (fun v => GB (fun _ => False) V5 v ∧ BK v (wb0.heap.size) [.int .i64 1, .int .i64 3] ∧ BK v (wb161.heap.size) [.slice A2 2 ca2, .slice Q2 2 cq2] ∧ Mid wb171.heap.size wb172 v) ⟨hHeld, ((BY.set 0 _).set 1 _), ((BX.far (by omega) _ _).far (by omega) _ _), ((hm.set (by omega) _).set (by omega) _)⟩ (fun wb178 hS => ?_)
            clear hHeld BY BX hm
            obtain ⟨hHeld, BY, BX, hm⟩ := hS
            refine wpAnyH_take (i := 12) (oi := _) (v := ?vb179) rfl (by kernel_rfl) (by kernel_rfl) (by kernel_rfl) (fun _ _ _ h => h) (Or.inl ⟨by kernel_rfl, ?hyb179⟩) hHeld ?restb179
            case hyb179 => (intro w hSw; go_simp; first | done | (with_reducible rfl))
            try simp only [Act.put, PL]
            refine wpAnyH_done (by kernel_rfl) ?_ _
            go_wp2_with fail
            go_meet
            exact ⟨_, _, A2, ca2, l2, Q2, cq2, rfl, rfl, rfl, hl2, hd2, (hfd2.mid hm).isCs, (hfd2.mid hm).isQs, BX, BY, BY1.gb hHeld (fun h => h), hHeld.toBelow hbb (fun k hk => hk.elim) hBV⟩
          · as_aux_lemma =>
           go_simp
           refine hK.out _ _ (hHeld.al _) (fun hNew => ?_)
           have hX : V5.heap.size ≤ wb160.heap.size := hHeld.size
           have dYX := BY.lt
           clear hHeld hK K
           have hHeld := hNew
           clear hNew
           try simp only [Act.put, PL]
           refine at_anyH (fun v => GB (fun _ => False) V5 v ∧ BK v (wb0.heap.size) [.int .i64 0, .int .i64 0] ∧ BK v (wb160.heap.size) [.slice none 0 0, .slice none 0 0]) ⟨hHeld, BY.al _, BK.new _ _ _⟩ (fun wb180 hS => ?_)
           clear hHeld BY
           obtain ⟨hHeld, BY, BX⟩ := hS
           refine wpAnyH_ready (rs := [2]) (by kernel_rfl) (by simp) (AllReadyH.cons (o := _) rfl (fun K hK => ?_) AllReadyH.nil)
           go_simp
           refine (of4_any 1 _).mono ?_
           rintro e wb181 ⟨rfl, hb3⟩
           go_wp2_with fail
           refine hK.out _ _ (hHeld.below hb3) (fun hNew => ?_)
           replace BY := BY.keep hb3
           replace BX := BX.keep hb3
           clear hb3
           clear hHeld hK K
           have hHeld := hNew
           clear hNew
           try simp only [Act.put, PL]
           refine wpAnyH_ready (rs := [3]) (by kernel_rfl) (by simp) (AllReadyH.cons (o := _) rfl (fun K hK => ?_) AllReadyH.nil)
           go_simp
           refine (MK.out _ (hHeld.toBelow (Below.refl _ _) (fun k hk => hk.elim) (Nat.le_refl _))).mono ?_
           rintro e wb182 ⟨hb3, A2, ca2, l2, Q2, cq2, rfl, hl2, hd2, hfd2⟩
           have hm := Mid.refl wb181.heap.size wb182
           go_wp2_with fail
           refine hK.out _ _ (hHeld.below hb3) (fun hNew => ?_)
           have cY := BY.lt
           replace BY := BY.keep hb3
           have cX := BX.lt
           replace BX := BX.keep hb3
           clear hb3
           clear hHeld hK K
           have hHeld := hNew
           clear hNew
           try simp only [Act.put, PL]
           refine wpAnyH_take (i := 4) (oi := _) (v := ?vb183) rfl (by kernel_rfl) (by kernel_rfl) (by kernel_rfl) (fun _ _ _ h => h) (Or.inl ⟨by kernel_rfl, ?hyb183⟩) hHeld ?restb183
           case hyb183 => (intro w hSw; go_simp; first | done | (with_reducible rfl))
           try simp only [Act.put, PL]
           refine wpAnyH_take (i := 5) (oi := _) (v := ?vb184) rfl (by kernel_rfl) (by kernel_rfl) (by kernel_rfl) (fun _ _ _ h => h) (Or.inl ⟨by kernel_rfl, ?hyb184⟩) hHeld ?restb184
           case hyb184 => (intro w hSw; go_simp; first | done | (with_reducible rfl))
           try simp only [Act.put, PL]
           refine wpAnyH_take (i := 6) (oi := _) (v := ?vb185) rfl (by kernel_rfl) (by kernel_rfl) (by kernel_rfl) (fun _ _ _ h => h) (Or.inl ⟨by kernel_rfl, ?hyb185⟩) hHeld ?restb185
           case hyb185 => (intro w hSw; go_simp; first | done | (with_reducible rfl))
           try simp only [Act.put, PL]
           refine wpAnyH_take (i := 7) (oi := _) (v := ?vb186) rfl (by kernel_rfl) (by kernel_rfl) (by kernel_rfl) (fun _ _ _ h => h) (Or.inl ⟨by kernel_rfl, ?hyb186⟩) hHeld ?restb186
           case hyb186 => (intro w hSw; go_simp; first | done | (with_reducible rfl))
           try simp only [Act.put, PL]
           refine wpAnyH_ready (rs := [10]) (by kernel_rfl) (by simp) (AllReadyH.cons (o := _) rfl (fun K hK => ?_) AllReadyH.nil)
           have n0 := BX.c 0 rfl
           have f0 := BX.f 0 rfl
           have n1 := BX.c 1 rfl
           have f1 := BX.f 1 rfl
           go_simp
           clear n0 f0 n1 f1
           refine hK.out _ _ ((hHeld.set (.inr hX) _).set (.inr hX) _) (fun hNew => ?_)
           clear hHeld hK K
           have hHeld := hNew
           clear hNew
           try simp only [Act.put, PL]
           refine at_anyH (fun v => GB (fun _ => False) V5 v ∧ BK v (wb0.heap.size) [.int .i64 0, .int .i64 0] ∧ BK v (wb160.heap.size) [.slice A2 2 ca2, .slice Q2 2 cq2] ∧ Mid wb181.heap.size wb182 v) ⟨hHeld, ((BY.far (by omega) _ _).far (by omega) _ _), ((BX.set 0 _).set 1 _), ((hm.set (by omega) _).set (by omega) _)⟩ (fun wb187 hS => ?_)
           clear hHeld BY BX hm
           obtain ⟨hHeld, BY, BX, hm⟩ := hS
           refine wpAnyH_ready (rs := [11]) (by kernel_rfl) (by simp) (AllReadyH.cons (o := _) rfl (fun K hK => ?_) AllReadyH.nil)
           have n0 := BY.c 0 rfl
           have f0 := BY.f 0 rfl
           have n1 := BY.c 1 rfl
           have f1 := BY.f 1 rfl
           go_simp
           clear n0 f0 n1 f1
           refine hK.out _ _ ((hHeld.set (.inr hY) _).set (.inr hY) _) (fun hNew => ?_)
           clear hHeld hK K
           have hHeld := hNew
           clear hNew
           try simp only [Act.put, PL]
           refine at_anyH (fun v => GB (fun _ => False) V5 v ∧ BK v (wb0.heap.size) [.int .i64 1, .int .i64 3] ∧ BK v (wb160.heap.size) [.slice A2 2 ca2, .slice Q2 2 cq2] ∧ Mid wb181.heap.size wb182 v) ⟨hHeld, ((BY.set 0 _).set 1 _), ((BX.far (by omega) _ _).far (by omega) _ _), ((hm.set (by omega) _).set (by omega) _)⟩ (fun wb188 hS => ?_)
           clear hHeld BY BX hm
           obtain ⟨hHeld, BY, BX, hm⟩ := hS
           refine wpAnyH_take (i := 12) (oi := _) (v := ?vb189) rfl (by kernel_rfl) (by kernel_rfl) (by kernel_rfl) (fun _ _ _ h => h) (Or.inl ⟨by kernel_rfl, ?hyb189⟩) hHeld ?restb189
           case hyb189 => (intro w hSw; go_simp; first | done | (with_reducible rfl))
           try simp only [Act.put, PL]
           refine wpAnyH_done (by kernel_rfl) ?_ _
           go_wp2_with fail
           go_meet
           exact ⟨_, _, A2, ca2, l2, Q2, cq2, rfl, rfl, rfl, hl2, hd2, (hfd2.mid hm).isCs, (hfd2.mid hm).isQs, BX, BY, BY1.gb hHeld (fun h => h), hHeld.toBelow hbb (fun k hk => hk.elim) hBV⟩
         · as_aux_lemma =>
          go_simp
          refine hK.out _ _ (hHeld.al _) (fun hNew => ?_)
          have hX : V5.heap.size ≤ wb159.heap.size := hHeld.size
          have dYX := BY.lt
          clear hHeld hK K
          have hHeld := hNew
          clear hNew
          try simp only [Act.put, PL]
          refine at_anyH (fun v => GB (fun _ => False) V5 v ∧ BK v (wb0.heap.size) [.int .i64 0, .int .i64 0] ∧ BK v (wb159.heap.size) [.slice none 0 0, .slice none 0 0]) ⟨hHeld, BY.al _, BK.new _ _ _⟩ (fun wb190 hS => ?_)
          clear hHeld BY
          obtain ⟨hHeld, BY, BX⟩ := hS
          refine wpAnyH_ready (rs := [1]) (by kernel_rfl) (by simp) (AllReadyH.cons (o := _) rfl (fun K hK => ?_) AllReadyH.nil)
          go_simp
          refine (of4_any 0 _).mono ?_
          rintro e wb191 ⟨rfl, hb3⟩
          go_wp2_with fail
          refine hK.out _ _ (hHeld.below hb3) (fun hNew => ?_)
          replace BY := BY.keep hb3
          replace BX := BX.keep hb3
          clear hb3
          clear hHeld hK K
          have hHeld := hNew
          clear hNew
          try simp only [Act.put, PL]
          refine wpAnyH_ready (rs := [2]) (by kernel_rfl) (by simp) (AllReadyH.cons (o := _) rfl (fun K hK => ?_) AllReadyH.nil)
          go_simp
          refine (of4_any 1 _).mono ?_
          rintro e wb192 ⟨rfl, hb3⟩
          go_wp2_with fail
          refine hK.out _ _ (hHeld.below hb3) (fun hNew => ?_)
          replace BY := BY.keep hb3
          replace BX := BX.keep hb3
          clear hb3
          clear hHeld hK K
          have hHeld := hNew
          clear hNew
          try simp only [Act.put, PL]
          refine wpAnyH_ready (rs := [3]) (by kernel_rfl) (by simp) (AllReadyH.cons (o := _) rfl (fun K hK => ?_) AllReadyH.nil)
          go_simp
          refine (MK.out _ (hHeld.toBelow (Below.refl _ _) (fun k hk => hk.elim) (Nat.le_refl _))).mono ?_
          rintro e wb193 ⟨hb3, A2, ca2, l2, Q2, cq2, rfl, hl2, hd2, hfd2⟩
          have hm := Mid.refl wb192.heap.size wb193
          go_wp2_with fail
          refine hK.out _ _ (hHeld.below hb3) (fun hNew => ?_)
          have cY := BY.lt
          replace BY := BY.keep hb3
          have cX := BX.lt
          replace BX := BX.keep hb3
          clear hb3
          clear hHeld hK K
          have hHeld := hNew
          clear hNew
          try simp only [Act.put, PL]
          refine wpAnyH_take (i := 4) (oi := _) (v := ?vb194) rfl (by kernel_rfl) (by kernel_rfl) (by kernel_rfl) (fun _ _ _ h => h) (Or.inl ⟨by kernel_rfl, ?hyb194⟩) hHeld ?restb194
          case hyb194 => (intro w hSw; go_simp; first | done | (with_reducible rfl))
          try simp only [Act.put, PL]
          refine wpAnyH_take (i := 5) (oi := _) (v := ?vb195) rfl (by kernel_rfl) (by kernel_rfl) (by kernel_rfl) (fun _ _ _ h => h) (Or.inl ⟨by kernel_rfl, ?hyb195⟩) hHeld ?restb195
          case hyb195 => (intro w hSw; go_simp; first | done | (with_reducible rfl))
          try simp only [Act.put, PL]
          refine wpAnyH_take (i := 6) (oi := _) (v := ?vb196) rfl (by kernel_rfl) (by kernel_rfl) (by kernel_rfl) (fun _ _ _ h => h) (Or.inl ⟨by kernel_rfl, ?hyb196⟩) hHeld ?restb196
          case hyb196 => (intro w hSw; go_simp; first | done | (with_reducible rfl))
          try simp only [Act.put, PL]
          refine wpAnyH_take (i := 7) (oi := _) (v := ?vb197) rfl (by kernel_rfl) (by kernel_rfl) (by kernel_rfl) (fun _ _ _ h => h) (Or.inl ⟨by kernel_rfl, ?hyb197⟩) hHeld ?restb197
          case hyb197 => (intro w hSw; go_simp; first | done | (with_reducible rfl))
          try simp only [Act.put, PL]
          refine wpAnyH_ready (rs := [10]) (by kernel_rfl) (by simp) (AllReadyH.cons (o := _) rfl (fun K hK => ?_) AllReadyH.nil)
          have n0 := BX.c 0 rfl
          have f0 := BX.f 0 rfl
          have n1 := BX.c 1 rfl
          have f1 := BX.f 1 rfl
          go_simp
          clear n0 f0 n1 f1
          refine hK.out _ _ ((hHeld.set (.inr hX) _).set (.inr hX) _) (fun hNew => ?_)
          clear hHeld hK K
          have hHeld := hNew
          clear hNew
          try simp only [Act.put, PL]
          refine at_anyH (fun v => GB (fun _ => False) V5 v ∧ BK v (wb0.heap.size) [.int .i64 0, .int .i64 0] ∧ BK v (wb159.heap.size) [.slice A2 2 ca2, .slice Q2 2 cq2] ∧ Mid wb192.heap.size wb193 v) ⟨hHeld, ((BY.far (by omega) _ _).far (by omega) _ _), ((BX.set 0 _).set 1 _), ((hm.set (by omega) _).set (by omega) _)⟩ (fun wb198 hS => ?_)
          clear hHeld BY BX hm
          obtain ⟨hHeld, BY, BX, hm⟩ := hS
          refine wpAnyH_ready (rs := [11]) (by kernel_rfl) (by simp) (AllReadyH.cons (o := _) rfl (fun K hK => ?_) AllReadyH.nil)
          have n0 := BY.c 0 rfl
          have f0 := BY.f 0 rfl
          have n1 := BY.c 1 rfl
          have f1 := BY.f 1 rfl
          go_simp
          clear n0 f0 n1 f1
          refine hK.out _ _ ((hHeld.set (.inr hY) _).set (.inr hY) _) (fun hNew => ?_)
          clear hHeld hK K
          have hHeld := hNew
          clear hNew
          try simp only [Act.put, PL]
          refine at_anyH (fun v => GB (fun _ => False) V5 v ∧ BK v (wb0.heap.size) [.int .i64 1, .int .i64 3] ∧ BK v (wb159.heap.size) [.slice A2 2 ca2, .slice Q2 2 cq2] ∧ Mid wb192.heap.size wb193 v) ⟨hHeld, ((BY.set 0 _).set 1 _), ((BX.far (by omega) _ _).far (by omega) _ _), ((hm.set (by omega) _).set (by omega) _)⟩ (fun wb199 hS => ?_)
          clear hHeld BY BX hm
          obtain ⟨hHeld, BY, BX, hm⟩ := hS
          refine wpAnyH_take (i := 12) (oi := _) (v := ?vb200) rfl (by kernel_rfl) (by kernel_rfl) (by kernel_rfl) (fun _ _ _ h => h) (Or.inl ⟨by kernel_rfl, ?hyb200⟩) hHeld ?restb200
          case hyb200 => (intro w hSw; go_simp; first | done | (with_reducible rfl))
          try simp only [Act.put, PL]
          refine wpAnyH_done (by kernel_rfl) ?_ _
          go_wp2_with fail
          go_meet
          exact ⟨_, _, A2, ca2, l2, Q2, cq2, rfl, rfl, rfl, hl2, hd2, (hfd2.mid hm).isCs, (hfd2.mid hm).isQs, BX, BY, BY1.gb hHeld (fun h => h), hHeld.toBelow hbb (fun k hk => hk.elim) hBV⟩
    case rest =>
      obtain ⟨p10, q11, A3, ca3, l3, Q3, cq3, rfl, rfl, rfl, hl3, hd3, hcs, hqs, BP, BY2, BY1, hbb⟩ := hcut
      clear hcs hd3 hl3
      go_upto_region 6 with fail
      refine at_worldQ (fun v => Below w.heap.size w v ∧ w.heap.size ≤ v.heap.size ∧ BK v p10 [.slice A3 2 ca3, .slice Q3 2 cq3] ∧ BK v q8 [.int .i64 1, .int .i64 1] ∧ BK v q11 [.int .i64 1, .int .i64 3] ∧ IsQs v Q3 [⟨0, 2, 0, 1, 1, 1, 1, 1⟩, ⟨1, 2, 0, 1, 1, 1, 1, 3⟩]) ⟨hbb, hbb.size, BP, BY1, BY2, hqs⟩ (fun V6 hS => ?_)
      clear hbb BP BY1 BY2 hqs
      obtain ⟨hbb, hBV, BP, BY1, BY2, hqs⟩ := hS
      have p0 := BP.c 0 rfl
      have p1 := BP.c 1 rfl
      refine wp_region_noPanic ?_
      refine wp_region_held_drew (S := (GB (fun _ => False) V6)) (by kernel_rfl) ((GB.refl _ _).drew) (fun hHeld => ?_)
      refine at_anyH (fun v => GB (fun _ => False) V6 v) hHeld (fun wc0 hNew => ?_)
      clear hHeld
      have hHeld := hNew
      clear hNew
      refine wpAnyH_take (i := 1) (oi := _) (v := ?vc1) rfl (by kernel_rfl) (by kernel_rfl) (by kernel_rfl) (fun _ _ _ h => h) (Or.inl ⟨by kernel_rfl, ?hyc1⟩) hHeld ?restc1
      case hyc1 => (intro w hSw; go_simp; first | done | (with_reducible rfl))
      try simp only [Act.put, PA, PB]
      refine wpAnyH_take (i := 2) (oi := _) (v := ?vc2) rfl (by kernel_rfl) (by kernel_rfl) (by kernel_rfl) (fun _ _ _ h => h) (Or.inl ⟨by kernel_rfl, ?hyc2⟩) hHeld ?restc2
      case hyc2 => (intro w hSw; have kp0 := hSw.cell (fun h => h) p0; have kp1 := hSw.cell (fun h => h) p1; go_simp; first | done | (with_reducible rfl))
      try simp only [Act.put, PA, PB]
      refine wpAnyH_ready (rs := [0]) (by kernel_rfl) (by simp) (AllReadyH.cons (o := _) rfl (fun K hK => ?_) AllReadyH.nil)
      go_simp
      refine (two4_any _).mono ?_
      rintro e wc3 ⟨P6, l6, rfl, hl6, hdat6, hcr6⟩
      have hb3 := hcr6.bb
      have RP := Lib.hid (fun v (hv : Below wc3.heap.size wc3 v) (hv2 : Below V6.heap.size V6 v) => al4_rep (some ⟨P6, 0, none⟩) 2 l6 Q3 cq3 v hl6 hdat6 ((hcr6.isCs hl6.symm (by unfold maxLen; omega)).keep hv) (hqs.keep hv2))
      clear hl6 hdat6 hcr6
      go_wp2_with fail
      refine hK.out _ _ (hHeld.below hb3) (fun hNew => ?_)
      clear hb3
      clear hHeld hK K
      have hHeld := hNew
      clear hNew
      try simp only [Act.put, PA, PB]
      refine wpAnyH_ready (rs := [3]) (by kernel_rfl) (by simp) (AllReadyH.cons (o := _) rfl (fun K hK => ?_) AllReadyH.nil)
      go_simp
      refine (RP.out _ (Below.refl _ _) (hHeld.toBelow (Below.refl _ _) (fun k hk => hk.elim) (Nat.le_refl _))).mono ?_
      rintro e wc4 ⟨rfl, hb3⟩
      go_wp2_with fail
      refine hK.out _ _ (hHeld.below hb3) (fun hNew => ?_)
      clear hb3
      clear hHeld hK K
      have hHeld := hNew
      clear hNew
      try simp only [Act.put, PA, PB]
      refine wpAnyH_take (i := 4) (oi := _) (v := ?vc5) rfl (by kernel_rfl) (by kernel_rfl) (by kernel_rfl) (fun _ _ _ h => h) (Or.inl ⟨by kernel_rfl, ?hyc5⟩) hHeld ?restc5
      case hyc5 => (intro w hSw; go_simp; first | done | (with_reducible rfl))
      try simp only [Act.put, PA, PB]
      refine wpAnyH_take (i := 5) (oi := _) (v := ?vc6) rfl (by kernel_rfl) (by kernel_rfl) (by kernel_rfl) (fun _ _ _ h => h) (Or.inl ⟨by kernel_rfl, ?hyc6⟩) hHeld ?restc6
      case hyc6 => (intro w hSw; go_simp; first | done | (with_reducible rfl))
      try simp only [Act.put, PA, PB]
      refine wpAnyH_take (i := 6) (oi := _) (v := ?vc7) rfl (by kernel_rfl) (by kernel_rfl) (by kernel_rfl) (fun _ _ _ h => h) (Or.inl ⟨by kernel_rfl, ?hyc7⟩) hHeld ?restc7
      case hyc7 => (intro w hSw; go_simp; first | done | (with_reducible rfl))
      try simp only [Act.put, PA, PB]
      refine wpAnyH_take (i := 7) (oi := _) (v := ?vc8) rfl (by kernel_rfl) (by kernel_rfl) (by kernel_rfl) (fun _ _ _ h => h) (Or.inl ⟨by kernel_rfl, ?hyc8⟩) hHeld ?restc8
      case hyc8 => (intro w hSw; go_simp; first | done | (with_reducible rfl))
      try simp only [Act.put, PA, PB]
      refine wpAnyH_take (i := 8) (oi := _) (v := ?vc9) rfl (by kernel_rfl) (by kernel_rfl) (by kernel_rfl) (fun _ _ _ h => h) (Or.inl ⟨by kernel_rfl, ?hyc9⟩) hHeld ?restc9
      case hyc9 => (intro w hSw; go_simp; first | done | (with_reducible rfl))
      try simp only [Act.put, PA, PB]
      refine wpAnyH_done (by kernel_rfl) ?_ _
      refine NoPanic.normal ?_
      replace hqs := hqs.keep (hHeld.toBelow (Below.refl _ _) (fun k hk => hk.elim) (Nat.le_refl _))
      replace hbb := hHeld.toBelow hbb (fun k hk => hk.elim) hBV
      replace BP := BP.gb hHeld (fun h => h)
      replace BY1 := BY1.gb hHeld (fun h => h)
      replace BY2 := BY2.gb hHeld (fun h => h)
      clear hHeld hBV p0 p1 RP
      go_upto_region 7 with fail
      refine at_worldQ (fun v => Below w.heap.size w v ∧ BK v p10 [.slice A3 2 ca3, .slice Q3 2 cq3] ∧ BK v q8 [.int .i64 1, .int .i64 1] ∧ BK v q11 [.int .i64 1, .int .i64 3] ∧ IsQs v Q3 [⟨0, 2, 0, 1, 1, 1, 1, 1⟩, ⟨1, 2, 0, 1, 1, 1, 1, 3⟩]) ⟨hbb, BP, BY1, BY2, hqs⟩ (fun V7 hS => ?_)
      clear hbb BP BY1 BY2 hqs
      obtain ⟨hbb, BP, BY1, BY2, hqs⟩ := hS
      go_wp2_with fail
      refine (two4_any _).mono ?_
      rintro e w7 ⟨P, l, rfl, hl, hdat, hcr⟩
      have hb := hcr.bb
      have hPB := (World.ownsRow.lt hcr.row P rfl).1
      have hws := hbb.size
      obtain ⟨x, y, rfl⟩ : ∃ x y, l = [x, y] := by
        match l, hl with
        | [x, y], _ => exact ⟨x, y, rfl⟩
      have BR0 : BK w7 P [.int .i64 x.len, .slice x.K x.cuts.length x.ck, .slice x.Z x.dens.length x.cz, .int .i64 y.len, .slice y.K y.cuts.length y.ck, .slice y.Z y.dens.length y.cz] := bk_row hcr.row
      have HXY := Lib.hid (show Ak.dat x = (2, [0, 2], [1]) ∧ Ak.dat y = (2, [0, 1, 2], [3, 1]) by simpa using hdat)
      have hall := hcr.all
      clear hdat hcr hl
      go_upto_region 8 with fail
      refine at_worldQ (fun v => Below V7.heap.size V7 v ∧ V7.heap.size ≤ v.heap.size ∧ BK v P [.int .i64 x.len, .slice x.K x.cuts.length x.ck, .slice x.Z x.dens.length x.cz, .int .i64 y.len, .slice y.K y.cuts.length y.ck, .slice y.Z y.dens.length y.cz] ∧ ∀ c ∈ [x, y], IsCG v V7.heap.size (Value.slice (some ⟨P, 0, none⟩) 2 2).ownBlock c) ⟨hb, hb.size, BR0, hall⟩ (fun V8 hS => ?_)
      clear hb BR0 hall
      obtain ⟨hb7, hBV, BR, hall⟩ := hS
      go_cut [] (fun v => BK v P [.int .i64 y.len, .slice y.K y.cuts.length y.ck, .slice y.Z y.dens.length y.cz, .int .i64 x.len, .slice x.K x.cuts.length x.ck, .slice x.Z x.dens.length x.cz] ∧ GB (fun k => k = P) V8 v)
      case first =>
        as_aux_lemma =>
          refine wp_region_held_drew (S := (GB (fun k => k = P) V8)) (by kernel_rfl) ((GB.refl _ _).drew) (fun hHeld => ?_)
          refine at_anyH (fun v => GB (fun k => k = P) V8 v ∧ BK v (P) [.int .i64 x.len, .slice x.K x.cuts.length x.ck, .slice x.Z x.dens.length x.cz, .int .i64 y.len, .slice y.K y.cuts.length y.ck, .slice y.Z y.dens.length y.cz]) ⟨hHeld, BR.drew⟩ (fun ws0 hNew => ?_)
          clear hHeld BR
          obtain ⟨hHeld, BR⟩ := hNew
          refine wpAnyH_take (i := 0) (oi := _) (v := ?vs1) rfl (by kernel_rfl) (by kernel_rfl) (by kernel_rfl) (fun _ _ _ h => h) (Or.inl ⟨by kernel_rfl, ?hys1⟩) hHeld ?rests1
          case hys1 => (intro w hSw; go_simp; first | done | (with_reducible rfl))
          try simp only [Act.put, PA, PB]
          refine wpAnyH_take (i := 1) (oi := _) (v := ?vs2) rfl (by kernel_rfl) (by kernel_rfl) (by kernel_rfl) (fun _ _ _ h => h) (Or.inl ⟨by kernel_rfl, ?hys2⟩) hHeld ?rests2
          case hys2 => (intro w hSw; go_simp; first | done | (with_reducible rfl))
          try simp only [Act.put, PA, PB]
          refine wpAnyH_take (i := 2) (oi := _) (v := ?vs3) rfl (by kernel_rfl) (by kernel_rfl) (by kernel_rfl) (fun _ _ _ h => h) (Or.inl ⟨by kernel_rfl, ?hys3⟩) hHeld ?rests3
          case hys3 => (intro w hSw; go_simp; first | done | (with_reducible rfl))
          try simp only [Act.put, PA, PB]
          refine wpAnyH_take (i := 3) (oi := _) (v := ?vs4) rfl (by kernel_rfl) (by kernel_rfl) (by kernel_rfl) (fun _ _ _ h => h) (Or.inl ⟨by kernel_rfl, ?hys4⟩) hHeld ?rests4
          case hys4 => (intro w hSw; go_simp; first | done | (with_reducible rfl))
          try simp only [Act.put, PA, PB]
          refine wpAnyH_take (i := 5) (oi := _) (v := ?vs5) rfl (by kernel_rfl) (by kernel_rfl) (by kernel_rfl) (fun _ _ _ h => h) (Or.inl ⟨by kernel_rfl, ?hys5⟩) hHeld ?rests5
          case hys5 => (intro w hSw; go_simp; first | done | (with_reducible rfl))
          try simp only [Act.put, PA, PB]
          refine wpAnyH_take (i := 6) (oi := _) (v := ?vs6) rfl (by kernel_rfl) (by kernel_rfl) (by kernel_rfl) (fun _ _ _ h => h) (Or.inl ⟨by kernel_rfl, ?hys6⟩) hHeld ?rests6
          case hys6 => (intro w hSw; go_simp; first | done | (with_reducible rfl))
          try simp only [Act.put, PA, PB]
          refine wpAnyH_ready (rs := [4, 7]) (by kernel_rfl) (by simp) (AllReadyH.cons (o := _) rfl (fun K hK => ?_) (AllReadyH.cons (o := _) rfl (fun K hK => ?_) AllReadyH.nil))
          ·
            have n3 := BR.c 3 rfl
            have n4 := BR.c 4 rfl
            have n5 := BR.c 5 rfl
            go_simp
            clear n3 n4 n5
            refine hK.out _ _ hHeld (fun hNew => ?_)
            clear hHeld hK K
            have hHeld := hNew
            clear hNew
            try simp only [Act.put, PA, PB]
            refine wpAnyH_ready (rs := [7]) (by kernel_rfl) (by simp) (AllReadyH.cons (o := _) rfl (fun K hK => ?_) AllReadyH.nil)
            have n0 := BR.c 0 rfl
            have n1 := BR.c 1 rfl
            have n2 := BR.c 2 rfl
            go_simp
            clear n0 n1 n2
            refine hK.out _ _ hHeld (fun hNew => ?_)
            clear hHeld hK K
            have hHeld := hNew
            clear hNew
            try simp only [Act.put, PA, PB]
            refine wpAnyH_take (i := 8) (oi := _) (v := ?vs9) rfl (by kernel_rfl) (by kernel_rfl) (by kernel_rfl) (fun _ _ _ h => h) (Or.inl ⟨by kernel_rfl, ?hys9⟩) hHeld ?rests9
            case hys9 => (intro w hSw; go_simp; first | done | (with_reducible rfl))
            try simp only [Act.put, PA, PB]
            refine wpAnyH_ready (rs := [9]) (by kernel_rfl) (by simp) (AllReadyH.cons (o := _) rfl (fun K hK => ?_) AllReadyH.nil)
            have n0 := BR.c 0 rfl
            have f0 := BR.f 0 rfl
            have n1 := BR.c 1 rfl
            have f1 := BR.f 1 rfl
            have n2 := BR.c 2 rfl
            have f2 := BR.f 2 rfl
            go_simp
            clear n0 f0 n1 f1 n2 f2
            refine hK.out _ _ (((hHeld.set (.inl rfl) _).set (.inl rfl) _).set (.inl rfl) _) (fun hNew => ?_)
            clear hHeld hK K
            have hHeld := hNew
            clear hNew
            try simp only [Act.put, PA, PB]
            refine at_anyH (fun v => GB (fun k => k = P) V8 v ∧ BK v (P) [.int .i64 y.len, .slice y.K y.cuts.length y.ck, .slice y.Z y.dens.length y.cz, .int .i64 y.len, .slice y.K y.cuts.length y.ck, .slice y.Z y.dens.length y.cz]) ⟨hHeld, (((BR.set 0 _).set 1 _).set 2 _)⟩ (fun ws10 hS => ?_)
            clear hHeld BR
            obtain ⟨hHeld, BR⟩ := hS
            refine wpAnyH_take (i := 10) (oi := _) (v := ?vs11) rfl (by kernel_rfl) (by kernel_rfl) (by kernel_rfl) (fun _ _ _ h => h) (Or.inl ⟨by kernel_rfl, ?hys11⟩) hHeld ?rests11
            case hys11 => (intro w hSw; go_simp; first | done | (with_reducible rfl))
            try simp only [Act.put, PA, PB]
            refine wpAnyH_ready (rs := [11]) (by kernel_rfl) (by simp) (AllReadyH.cons (o := _) rfl (fun K hK => ?_) AllReadyH.nil)
            have n0 := BR.c 3 rfl
            have f0 := BR.f 3 rfl
            have n1 := BR.c 4 rfl
            have f1 := BR.f 4 rfl
            have n2 := BR.c 5 rfl
            have f2 := BR.f 5 rfl
            go_simp
            clear n0 f0 n1 f1 n2 f2
            refine hK.out _ _ (((hHeld.set (.inl rfl) _).set (.inl rfl) _).set (.inl rfl) _) (fun hNew => ?_)
            clear hHeld hK K
            have hHeld := hNew
            clear hNew
            try simp only [Act.put, PA, PB]
            refine at_anyH (fun v => GB (fun k => k = P) V8 v ∧ BK v (P) [.int .i64 y.len, .slice y.K y.cuts.length y.ck, .slice y.Z y.dens.length y.cz, .int .i64 x.len, .slice x.K x.cuts.length x.ck, .slice x.Z x.dens.length x.cz]) ⟨hHeld, (((BR.set 3 _).set 4 _).set 5 _)⟩ (fun ws12 hS => ?_)
            clear hHeld BR
            obtain ⟨hHeld, BR⟩ := hS
            refine wpAnyH_done (by kernel_rfl) ?_ _
            go_wp2_with fail
            go_meet
            exact ⟨BR, hHeld⟩
          ·
            have n0 := BR.c 0 rfl
            have n1 := BR.c 1 rfl
            have n2 := BR.c 2 rfl
            go_simp
            clear n0 n1 n2
            refine hK.out _ _ hHeld (fun hNew => ?_)
            clear hHeld hK K
            have hHeld := hNew
            clear hNew
            try simp only [Act.put, PA, PB]
            refine wpAnyH_ready (rs := [4]) (by kernel_rfl) (by simp) (AllReadyH.cons (o := _) rfl (fun K hK => ?_) AllReadyH.nil)
            have n3 := BR.c 3 rfl
            have n4 := BR.c 4 rfl
            have n5 := BR.c 5 rfl
            go_simp
            clear n3 n4 n5
            refine hK.out _ _ hHeld (fun hNew => ?_)
            clear hHeld hK K
            have hHeld := hNew
            clear hNew
            try simp only [Act.put, PA, PB]
            refine wpAnyH_take (i := 8) (oi := _) (v := ?vs15) rfl (by kernel_rfl) (by kernel_rfl) (by kernel_rfl) (fun _ _ _ h => h) (Or.inl ⟨by kernel_rfl, ?hys15⟩) hHeld ?rests15
            case hys15 => (intro w hSw; go_simp; first | done | (with_reducible rfl))
            try simp only [Act.put, PA, PB]
            refine wpAnyH_ready (rs := [9]) (by kernel_rfl) (by simp) (AllReadyH.cons (o := _) rfl (fun K hK => ?_) AllReadyH.nil)
            have n0 := BR.c 0 rfl
            have f0 := BR.f 0 rfl
            have n1 := BR.c 1 rfl
            have f1 := BR.f 1 rfl
            have n2 := BR.c 2 rfl
            have f2 := BR.f 2 rfl
            go_simp
            clear n0 f0 n1 f1 n2 f2
            refine hK.out _ _ (((hHeld.set (.inl rfl) _).set (.inl rfl) _).set (.inl rfl) _) (fun hNew => ?_)
            clear hHeld hK K
            have hHeld := hNew
            clear hNew
            try simp only [Act.put, PA, PB]
            refine at_anyH (fun v => GB (fun k => k = P) V8 v ∧ BK v (P) [.int .i64 y.len, .slice y.K y.cuts.length y.ck, .slice y.Z y.dens.length y.cz, .int .i64 y.len, .slice y.K y.cuts.length y.ck, .slice y.Z y.dens.length y.cz]) ⟨hHeld, (((BR.set 0 _).set 1 _).set 2 _)⟩ (fun ws16 hS => ?_)
            clear hHeld BR
            obtain ⟨hHeld, BR⟩ := hS
            refine wpAnyH_take (i := 10) (oi := _) (v := ?vs17) rfl (by kernel_rfl) (by kernel_rfl) (by kernel_rfl) (fun _ _ _ h => h) (Or.inl ⟨by kernel_rfl, ?hys17⟩) hHeld ?rests17
            case hys17 => (intro w hSw; go_simp; first | done | (with_reducible rfl))
            try simp only [Act.put, PA, PB]
            refine wpAnyH_ready (rs := [11]) (by kernel_rfl) (by simp) (AllReadyH.cons (o := _) rfl (fun K hK => ?_) AllReadyH.nil)
            have n0 := BR.c 3 rfl
            have f0 := BR.f 3 rfl
            have n1 := BR.c 4 rfl
            have f1 := BR.f 4 rfl
            have n2 := BR.c 5 rfl
            have f2 := BR.f 5 rfl
            go_simp
            clear n0 f0 n1 f1 n2 f2
            refine hK.out _ _ (((hHeld.set (.inl rfl) _).set (.inl rfl) _).set (.inl rfl) _) (fun hNew => ?_)
            clear hHeld hK K
            have hHeld := hNew
            clear hNew
            try simp only [Act.put, PA, PB]
            refine at_anyH (fun v => GB (fun k => k = P) V8 v ∧ BK v (P) [.int .i64 y.len, .slice y.K y.cuts.length y.ck, .slice y.Z y.dens.length y.cz, .int .i64 x.len, .slice x.K x.cuts.length x.ck, .slice x.Z x.dens.length x.cz]) ⟨hHeld, (((BR.set 3 _).set 4 _).set 5 _)⟩ (fun ws18 hS => ?_)
            clear hHeld BR
            obtain ⟨hHeld, BR⟩ := hS
            refine wpAnyH_done (by kernel_rfl) ?_ _
            go_wp2_with fail
            go_meet
            exact ⟨BR, hHeld⟩
      case rest =>
        refine Ak.at_worldK (fun v => BK v P [.int .i64 y.len, .slice y.K y.cuts.length y.ck, .slice y.Z y.dens.length y.cz, .int .i64 x.len, .slice x.K x.cuts.length x.ck, .slice x.Z x.dens.length x.cz] ∧ GB (fun k => k = P) V8 v) hcut (fun v hS => ?_)
        clear hcut
        obtain ⟨BR, hg⟩ := hS
        have h7 : Below V7.heap.size V7 v := hg.toBelow hb7 (fun k hk => by omega) hBV
        have hcs : IsCs v (some ⟨P, 0, none⟩) [y, x] := isCs_bk BR (fun c hc => ((hall c (by simp at hc ⊢; exact hc.symm)).gb (row' := (Value.slice (some ⟨P, 0, none⟩) 2 2).ownBlock) hg (fun g e => .inr (by rw [show g = P from e]; rfl)) (fun g e => .inl e)).isC) (by simp [maxLen])
        replace hqs := hqs.keep h7
        replace BP := BP.keep h7
        replace BY1 := BY1.keep h7
        replace BY2 := BY2.keep h7
        replace hbb := keepB hbb h7
        have HB := Lib.hid (fun u (hu : Below v.heap.size v u) => al4_back (some ⟨P, 0, none⟩) 2 [y, x] Q3 cq3 u rfl (by simp [HXY.out.1, HXY.out.2]) (hcs.keep hu) (hqs.keep hu))
        clear hg hb7 hBV BR hall h7 hcs hPB hws HXY
        have p1 := BP.c 1 rfl
        go_wp2_with fail
        refine (HB.out _ (Below.refl _ _)).mono ?_
        rintro e w9 ⟨rfl, hb⟩
        clear p1
        replace hqs := hqs.keep hb
        replace BP := BP.keep hb
        replace BY1 := BY1.keep hb
        replace BY2 := BY2.keep hb
        replace hbb := keepB hbb hb
        clear hb HB
        go_upto_region 10 with fail
        simp only [List.append]
        refine at_worldQ (fun v => Below w.heap.size w v ∧ w.heap.size ≤ v.heap.size ∧ BK v p10 [.slice A3 2 ca3, .slice Q3 2 cq3] ∧ BK v q8 [.int .i64 1, .int .i64 1] ∧ BK v q11 [.int .i64 1, .int .i64 3] ∧ IsQs v Q3 [⟨0, 2, 0, 1, 1, 1, 1, 1⟩, ⟨1, 2, 0, 1, 1, 1, 1, 3⟩]) ⟨hbb, hbb.size, BP, BY1, BY2, hqs⟩ (fun V10 hS => ?_)
        clear hbb BP BY1 BY2 hqs
        obtain ⟨hbb, hBV, BP, BY1, BY2, hqs⟩ := hS
        have r0 := BY1.c 0 rfl
        have r1 := BY1.c 1 rfl
        have t0 := BY2.c 0 rfl
        have t1 := BY2.c 1 rfl
        have p1 := BP.c 1 rfl
        refine wp_region_noPanic ?_
        refine wp_region_held_drew (S := (GB (fun _ => False) V10)) (by kernel_rfl) ((GB.refl _ _).drew) (fun hHeld => ?_)
        refine at_anyH (fun v => GB (fun _ => False) V10 v) hHeld (fun we0 hNew => ?_)
        clear hHeld
        have hHeld := hNew
        clear hNew
        refine wpAnyH_take (i := 0) (oi := _) (v := ?ve1) rfl (by kernel_rfl) (by kernel_rfl) (by kernel_rfl) (fun _ _ _ h => h) (Or.inl ⟨by kernel_rfl, ?hye1⟩) hHeld ?reste1
        case hye1 => (intro w hSw; go_simp; first | done | (with_reducible rfl))
        try simp only [Act.put, List.append, PA, set16]
        try simp only [PB]
        refine wpAnyH_take (i := 1) (oi := _) (v := ?ve2) rfl (by kernel_rfl) (by kernel_rfl) (by kernel_rfl) (fun _ _ _ h => h) (Or.inl ⟨by kernel_rfl, ?hye2⟩) hHeld ?reste2
        case hye2 => (intro w hSw; go_simp; first | done | (with_reducible rfl))
        try simp only [Act.put, List.append, PA, set16]
        try simp only [PB]
        refine wpAnyH_take (i := 2) (oi := _) (v := ?ve3) rfl (by kernel_rfl) (by kernel_rfl) (by kernel_rfl) (fun _ _ _ h => h) (Or.inl ⟨by kernel_rfl, ?hye3⟩) hHeld ?reste3
        case hye3 => (intro w hSw; go_simp; first | done | (with_reducible rfl))
        try simp only [Act.put, List.append, PA, set16]
        try simp only [PB]
        refine wpAnyH_take (i := 3) (oi := _) (v := ?ve4) rfl (by kernel_rfl) (by kernel_rfl) (by kernel_rfl) (fun _ _ _ h => h) (Or.inl ⟨by kernel_rfl, ?hye4⟩) hHeld ?reste4
        case hye4 => (intro w hSw; go_simp; first | done | (with_reducible rfl))
        try simp only [Act.put, List.append, PA, set16]
        try simp only [PB]
        refine wpAnyH_take (i := 4) (oi := _) (v := ?ve5) rfl (by kernel_rfl) (by kernel_rfl) (by kernel_rfl) (fun _ _ _ h => h) (Or.inl ⟨by kernel_rfl, ?hye5⟩) hHeld ?reste5
        case hye5 => (intro w hSw; go_simp; first | done | (with_reducible rfl))
        try simp only [Act.put, List.append, PA, set16]
        try simp only [PB]
        refine wpAnyH_take (i := 5) (oi := _) (v := ?ve6) rfl (by kernel_rfl) (by kernel_rfl) (by kernel_rfl) (fun _ _ _ h => h) (Or.inl ⟨by kernel_rfl, ?hye6⟩) hHeld ?reste6
        case hye6 => (intro w hSw; go_simp; first | done | (with_reducible rfl))
        try simp only [Act.put, List.append, PA, set16]
        try simp only [PB]
        refine wpAnyH_take (i := 6) (oi := _) (v := ?ve7) rfl (by kernel_rfl) (by kernel_rfl) (by kernel_rfl) (fun _ _ _ h => h) (Or.inl ⟨by kernel_rfl, ?hye7⟩) hHeld ?reste7
        case hye7 => (intro w hSw; go_simp; first | done | (with_reducible rfl))
        try simp only [Act.put, List.append, PA, set16]
        try simp only [PB]
        refine wpAnyH_take (i := 7) (oi := _) (v := ?ve8) rfl (by kernel_rfl) (by kernel_rfl) (by kernel_rfl) (fun _ _ _ h => h) (Or.inl ⟨by kernel_rfl, ?hye8⟩) hHeld ?reste8
        case hye8 => (intro w hSw; go_simp; first | done | (with_reducible rfl))
        try simp only [Act.put, List.append, PA, set16]
        try simp only [PB]
        refine wpAnyH_take (i := 8) (oi := _) (v := ?ve9) rfl (by kernel_rfl) (by kernel_rfl) (by kernel_rfl) (fun _ _ _ h => h) (Or.inl ⟨by kernel_rfl, ?hye9⟩) hHeld ?reste9
        case hye9 => (intro w hSw; go_simp; first | done | (with_reducible rfl))
        try simp only [Act.put, List.append, PA, set16]
        try simp only [PB]
        refine wpAnyH_take (i := 9) (oi := _) (v := ?ve10) rfl (by kernel_rfl) (by kernel_rfl) (by kernel_rfl) (fun _ _ _ h => h) (Or.inl ⟨by kernel_rfl, ?hye10⟩) hHeld ?reste10
        case hye10 => (intro w hSw; go_simp; first | done | (with_reducible rfl))
        try simp only [Act.put, List.append, PA, set16]
        try simp only [PB]
        refine wpAnyH_take (i := 10) (oi := _) (v := ?ve11) rfl (by kernel_rfl) (by kernel_rfl) (by kernel_rfl) (fun _ _ _ h => h) (Or.inl ⟨by kernel_rfl, ?hye11⟩) hHeld ?reste11
        case hye11 => (intro w hSw; go_simp; first | done | (with_reducible rfl))
        try simp only [Act.put, List.append, PA, set16]
        try simp only [PB]
        refine wpAnyH_take (i := 11) (oi := _) (v := ?ve12) rfl (by kernel_rfl) (by kernel_rfl) (by kernel_rfl) (fun _ _ _ h => h) (Or.inl ⟨by kernel_rfl, ?hye12⟩) hHeld ?reste12
        case hye12 => (intro w hSw; go_simp; first | done | (with_reducible rfl))
        try simp only [Act.put, List.append, PA, set16]
        try simp only [PB]
        refine wpAnyH_take (i := 12) (oi := _) (v := ?ve13) rfl (by kernel_rfl) (by kernel_rfl) (by kernel_rfl) (fun _ _ _ h => h) (Or.inl ⟨by kernel_rfl, ?hye13⟩) hHeld ?reste13
        case hye13 => (intro w hSw; go_simp; first | done | (with_reducible rfl))
        try simp only [Act.put, List.append, PA, set16]
        try simp only [PB]
        refine wpAnyH_take (i := 13) (oi := _) (v := ?ve14) rfl (by kernel_rfl) (by kernel_rfl) (by kernel_rfl) (fun _ _ _ h => h) (Or.inl ⟨by kernel_rfl, ?hye14⟩) hHeld ?reste14
        case hye14 => (intro w hSw; go_simp; first | done | (with_reducible rfl))
        try simp only [Act.put, List.append, PA, set16]
        try simp only [PB]
        refine wpAnyH_take (i := 14) (oi := _) (v := ?ve15) rfl (by kernel_rfl) (by kernel_rfl) (by kernel_rfl) (fun _ _ _ h => h) (Or.inl ⟨by kernel_rfl, ?hye15⟩) hHeld ?reste15
        case hye15 => (intro w hSw; go_simp; first | done | (with_reducible rfl))
        try simp only [Act.put, List.append, PA, set16]
        try simp only [PB]
        refine wpAnyH_take (i := 15) (oi := _) (v := ?ve16) rfl (by kernel_rfl) (by kernel_rfl) (by kernel_rfl) (fun _ _ _ h => h) (Or.inl ⟨by kernel_rfl, ?hye16⟩) hHeld ?reste16
        case hye16 => (intro w hSw; go_simp; first | done | (with_reducible rfl))
        try simp only [Act.put, List.append, PA, set16]
        try simp only [PB]
        refine wpAnyH_take (i := 16) (oi := _) (v := ?ve17) rfl (by kernel_rfl) (by kernel_rfl) (by kernel_rfl) (fun _ _ _ h => h) (Or.inl ⟨by kernel_rfl, ?hye17⟩) hHeld ?reste17
        case hye17 => (intro w hSw; go_simp; first | done | (with_reducible rfl))
        try simp only [Act.put, List.append, PA, set16]
        try simp only [PB]
        refine wpAnyH_take (i := 17) (oi := _) (v := ?ve18) rfl (by kernel_rfl) (by kernel_rfl) (by kernel_rfl) (fun _ _ _ h => h) (Or.inl ⟨by kernel_rfl, ?hye18⟩) hHeld ?reste18
        case hye18 => (intro w hSw; go_simp; first | done | (with_reducible rfl))
        try simp only [Act.put, List.append, PA, set16]
        try simp only [PB]
        refine wpAnyH_take (i := 18) (oi := _) (v := ?ve19) rfl (by kernel_rfl) (by kernel_rfl) (by kernel_rfl) (fun _ _ _ h => h) (Or.inl ⟨by kernel_rfl, ?hye19⟩) hHeld ?reste19
        case hye19 => (intro w hSw; go_simp; first | done | (with_reducible rfl))
        try simp only [Act.put, List.append, PA, set16]
        try simp only [PB]
        refine wpAnyH_take (i := 19) (oi := _) (v := ?ve20) rfl (by kernel_rfl) (by kernel_rfl) (by kernel_rfl) (fun _ _ _ h => h) (Or.inl ⟨by kernel_rfl, ?hye20⟩) hHeld ?reste20
        case hye20 => (intro w hSw; go_simp; first | done | (with_reducible rfl))
        try simp only [Act.put, List.append, PA, set16]
        try simp only [PB]
        refine wpAnyH_take (i := 20) (oi := _) (v := ?ve21) rfl (by kernel_rfl) (by kernel_rfl) (by kernel_rfl) (fun _ _ _ h => h) (Or.inl ⟨by kernel_rfl, ?hye21⟩) hHeld ?reste21
        case hye21 => (intro w hSw; go_simp; first | done | (with_reducible rfl))
        try simp only [Act.put, List.append, PA, set16]
        try simp only [PB]
        refine wpAnyH_take (i := 21) (oi := _) (v := ?ve22) rfl (by kernel_rfl) (by kernel_rfl) (by kernel_rfl) (fun _ _ _ h => h) (Or.inl ⟨by kernel_rfl, ?hye22⟩) hHeld ?reste22
        case hye22 => (intro w hSw; go_simp; first | done | (with_reducible rfl))
        try simp only [Act.put, List.append, PA, set16]
        try simp only [PB]
        refine wpAnyH_take (i := 22) (oi := _) (v := ?ve23) rfl (by kernel_rfl) (by kernel_rfl) (by kernel_rfl) (fun _ _ _ h => h) (Or.inl ⟨by kernel_rfl, ?hye23⟩) hHeld ?reste23
        case hye23 => (intro w hSw; go_simp; first | done | (with_reducible rfl))
        try simp only [Act.put, List.append, PA, set16]
        try simp only [PB]
        refine wpAnyH_take (i := 23) (oi := _) (v := ?ve24) rfl (by kernel_rfl) (by kernel_rfl) (by kernel_rfl) (fun _ _ _ h => h) (Or.inl ⟨by kernel_rfl, ?hye24⟩) hHeld ?reste24
        case hye24 => (intro w hSw; have kr0 := hSw.cell (fun h => h) r0; have kr1 := hSw.cell (fun h => h) r1; have kt0 := hSw.cell (fun h => h) t0; have kt1 := hSw.cell (fun h => h) t1; have kp1 := hSw.cell (fun h => h) p1; go_simp; first | done | (with_reducible rfl))
        try simp only [Act.put, List.append, PA, set16]
        try simp only [PB]
        refine wpAnyH_ready (rs := [24]) (by kernel_rfl) (by simp) (AllReadyH.cons (o := _) rfl (fun K hK => ?_) AllReadyH.nil)
        go_simp
        refine (of4_any 1 _).mono ?_
        rintro e we25 ⟨rfl, hb3⟩
        go_wp2_with fail
        refine hK.out _ _ (hHeld.below hb3) (fun hNew => ?_)
        clear hb3
        clear hHeld hK K
        have hHeld := hNew
        clear hNew
        try simp only [Act.put, List.append, PA, set16]
        try simp only [PB]
        refine wpAnyH_take (i := 25) (oi := _) (v := ?ve26) rfl (by kernel_rfl) (by kernel_rfl) (by kernel_rfl) (fun _ _ _ h => h) (Or.inl ⟨by kernel_rfl, ?hye26⟩) hHeld ?reste26
        case hye26 => (intro w hSw; go_simp; first | done | (with_reducible rfl))
        try simp only [Act.put, List.append, PA, set16]
        try simp only [PB]
        refine wpAnyH_take (i := 26) (oi := _) (v := ?ve27) rfl (by kernel_rfl) (by kernel_rfl) (by kernel_rfl) (fun _ _ _ h => h) (Or.inl ⟨by kernel_rfl, ?hye27⟩) hHeld ?reste27
        case hye27 => (intro w hSw; go_simp; first | done | (with_reducible rfl))
        try simp only [Act.put, List.append, PA, set16]
        try simp only [PB]
        refine wpAnyH_take (i := 27) (oi := _) (v := ?ve28) rfl (by kernel_rfl) (by kernel_rfl) (by kernel_rfl) (fun _ _ _ h => h) (Or.inl ⟨by kernel_rfl, ?hye28⟩) hHeld ?reste28
        case hye28 => (intro w hSw; go_simp; first | done | (with_reducible rfl))
        try simp only [Act.put, List.append, PA, set16]
        try simp only [PB]
        refine wpAnyH_take (i := 28) (oi := _) (v := ?ve29) rfl (by kernel_rfl) (by kernel_rfl) (by kernel_rfl) (fun _ _ _ h => h) (Or.inl ⟨by kernel_rfl, ?hye29⟩) hHeld ?reste29
        case hye29 => (intro w hSw; go_simp; first | done | (with_reducible rfl))
        try simp only [Act.put, List.append, PA, set16]
        try simp only [PB]
        refine wpAnyH_take (i := 29) (oi := _) (v := ?ve30) rfl (by kernel_rfl) (by kernel_rfl) (by kernel_rfl) (fun _ _ _ h => h) (Or.inl ⟨by kernel_rfl, ?hye30⟩) hHeld ?reste30
        case hye30 => (intro w hSw; go_simp; first | done | (with_reducible rfl))
        try simp only [Act.put, List.append, PA, set16]
        try simp only [PB]
        refine wpAnyH_take (i := 30) (oi := _) (v := ?ve31) rfl (by kernel_rfl) (by kernel_rfl) (by kernel_rfl) (fun _ _ _ h => h) (Or.inl ⟨by kernel_rfl, ?hye31⟩) hHeld ?reste31
        case hye31 => (intro w hSw; go_simp; first | done | (with_reducible rfl))
        try simp only [Act.put, List.append, PA, set16]
        try simp only [PB]
        refine wpAnyH_take (i := 31) (oi := _) (v := ?ve32) rfl (by kernel_rfl) (by kernel_rfl) (by kernel_rfl) (fun _ _ _ h => h) (Or.inl ⟨by kernel_rfl, ?hye32⟩) hHeld ?reste32
        case hye32 => (intro w hSw; go_simp; first | done | (with_reducible rfl))
        try simp only [Act.put, List.append, PA, set16]
        try simp only [PB]
        refine wpAnyH_take (i := 32) (oi := _) (v := ?ve33) rfl (by kernel_rfl) (by kernel_rfl) (by kernel_rfl) (fun _ _ _ h => h) (Or.inl ⟨by kernel_rfl, ?hye33⟩) hHeld ?reste33
        case hye33 => (intro w hSw; have kr0 := hSw.cell (fun h => h) r0; have kr1 := hSw.cell (fun h => h) r1; have kt0 := hSw.cell (fun h => h) t0; have kt1 := hSw.cell (fun h => h) t1; have kp1 := hSw.cell (fun h => h) p1; go_simp; first | done | (with_reducible rfl))
        try simp only [Act.put, List.append, PA, set16]
        try simp only [PB]
        refine wpAnyH_take (i := 33) (oi := _) (v := ?ve34) rfl (by kernel_rfl) (by kernel_rfl) (by kernel_rfl) (fun _ _ _ h => h) (Or.inl ⟨by kernel_rfl, ?hye34⟩) hHeld ?reste34
        case hye34 => (intro w hSw; go_simp; first | done | (with_reducible rfl))
        try simp only [Act.put, List.append, PA, set16]
        try simp only [PB]
        refine wpAnyH_take (i := 34) (oi := _) (v := ?ve35) rfl (by kernel_rfl) (by kernel_rfl) (by kernel_rfl) (fun _ _ _ h => h) (Or.inl ⟨by kernel_rfl, ?hye35⟩) hHeld ?reste35
        case hye35 => (intro w hSw; go_simp; first | done | (with_reducible rfl))
        try simp only [Act.put, List.append, PA, set16]
        try simp only [PB]
        refine wpAnyH_take (i := 35) (oi := _) (v := ?ve36) rfl (by kernel_rfl) (by kernel_rfl) (by kernel_rfl) (fun _ _ _ h => h) (Or.inl ⟨by kernel_rfl, ?hye36⟩) hHeld ?reste36
        case hye36 => (intro w hSw; go_simp; first | done | (with_reducible rfl))
        try simp only [Act.put, List.append, PA, set16]
        try simp only [PB]
        refine wpAnyH_take (i := 36) (oi := _) (v := ?ve37) rfl (by kernel_rfl) (by kernel_rfl) (by kernel_rfl) (fun _ _ _ h => h) (Or.inl ⟨by kernel_rfl, ?hye37⟩) hHeld ?reste37
        case hye37 => (intro w hSw; go_simp; first | done | (with_reducible rfl))
        try simp only [Act.put, List.append, PA, set16]
        try simp only [PB]
        refine wpAnyH_take (i := 37) (oi := _) (v := ?ve38) rfl (by kernel_rfl) (by kernel_rfl) (by kernel_rfl) (fun _ _ _ h => h) (Or.inl ⟨by kernel_rfl, ?hye38⟩) hHeld ?reste38
        case hye38 => (intro w hSw; go_simp; first | done | (with_reducible rfl))
        try simp only [Act.put, List.append, PA, set16]
        try simp only [PB]
        refine wpAnyH_take (i := 38) (oi := _) (v := ?ve39) rfl (by kernel_rfl) (by kernel_rfl) (by kernel_rfl) (fun _ _ _ h => h) (Or.inl ⟨by kernel_rfl, ?hye39⟩) hHeld ?reste39
        case hye39 => (intro w hSw; have kr0 := hSw.cell (fun h => h) r0; have kr1 := hSw.cell (fun h => h) r1; have kt0 := hSw.cell (fun h => h) t0; have kt1 := hSw.cell (fun h => h) t1; have kp1 := hSw.cell (fun h => h) p1; go_simp; first | done | (with_reducible rfl))
        try simp only [Act.put, List.append, PA, set16]
        try simp only [PB]
        refine wpAnyH_take (i := 39) (oi := _) (v := ?ve40) rfl (by kernel_rfl) (by kernel_rfl) (by kernel_rfl) (fun _ _ _ h => h) (Or.inl ⟨by kernel_rfl, ?hye40⟩) hHeld ?reste40
        case hye40 => (intro w hSw; go_simp; first | done | (with_reducible rfl))
        try simp only [Act.put, List.append, PA, set16]
        try simp only [PB]
        refine wpAnyH_take (i := 40) (oi := _) (v := ?ve41) rfl (by kernel_rfl) (by kernel_rfl) (by kernel_rfl) (fun _ _ _ h => h) (Or.inl ⟨by kernel_rfl, ?hye41⟩) hHeld ?reste41
        case hye41 => (intro w hSw; go_simp; first | done | (with_reducible rfl))
        try simp only [Act.put, List.append, PA, set16]
        try simp only [PB]
        refine wpAnyH_take (i := 41) (oi := _) (v := ?ve42) rfl (by kernel_rfl) (by kernel_rfl) (by kernel_rfl) (fun _ _ _ h => h) (Or.inl ⟨by kernel_rfl, ?hye42⟩) hHeld ?reste42
        case hye42 => (intro w hSw; go_simp; first | done | (with_reducible rfl))
        try simp only [Act.put, List.append, PA, set16]
        try simp only [PB]
        refine wpAnyH_take (i := 42) (oi := _) (v := ?ve43) rfl (by kernel_rfl) (by kernel_rfl) (by kernel_rfl) (fun _ _ _ h => h) (Or.inl ⟨by kernel_rfl, ?hye43⟩) hHeld ?reste43
        case hye43 => (intro w hSw; go_simp; first | done | (with_reducible rfl))
        try simp only [Act.put, List.append, PA, set16]
        try simp only [PB]
        refine wpAnyH_take (i := 43) (oi := _) (v := ?ve44) rfl (by kernel_rfl) (by kernel_rfl) (by kernel_rfl) (fun _ _ _ h => h) (Or.inl ⟨by kernel_rfl, ?hye44⟩) hHeld ?reste44
        case hye44 => (intro w hSw; go_simp; first | done | (with_reducible rfl))
        try simp only [Act.put, List.append, PA, set16]
        try simp only [PB]
        refine wpAnyH_take (i := 44) (oi := _) (v := ?ve45) rfl (by kernel_rfl) (by kernel_rfl) (by kernel_rfl) (fun _ _ _ h => h) (Or.inl ⟨by kernel_rfl, ?hye45⟩) hHeld ?reste45
        case hye45 => (intro w hSw; have kr0 := hSw.cell (fun h => h) r0; have kr1 := hSw.cell (fun h => h) r1; have kt0 := hSw.cell (fun h => h) t0; have kt1 := hSw.cell (fun h => h) t1; have kp1 := hSw.cell (fun h => h) p1; go_simp; first | done | (with_reducible rfl))
        try simp only [Act.put, List.append, PA, set16]
        try simp only [PB]
        refine wpAnyH_ready (rs := [45]) (by kernel_rfl) (by simp) (AllReadyH.cons (o := _) rfl (fun K hK => ?_) AllReadyH.nil)
        go_simp
        refine (al4_cnt0 Q3 cq3 _ (hqs.keep (hHeld.toBelow (Below.refl _ _) (fun k hk => hk.elim) (Nat.le_refl _)))).mono ?_
        rintro e we46 ⟨rfl, hb3⟩
        go_wp2_with fail
        refine hK.out _ _ (hHeld.below hb3) (fun hNew => ?_)
        clear hb3
        clear hHeld hK K
        have hHeld := hNew
        clear hNew
        try simp only [Act.put, List.append, PA, set16]
        try simp only [PB]
        refine wpAnyH_take (i := 46) (oi := _) (v := ?ve47) rfl (by kernel_rfl) (by kernel_rfl) (by kernel_rfl) (fun _ _ _ h => h) (Or.inl ⟨by kernel_rfl, ?hye47⟩) hHeld ?reste47
        case hye47 => (intro w hSw; go_simp; first | done | (with_reducible rfl))
        try simp only [Act.put, List.append, PA, set16]
        try simp only [PB]
        refine wpAnyH_take (i := 47) (oi := _) (v := ?ve48) rfl (by kernel_rfl) (by kernel_rfl) (by kernel_rfl) (fun _ _ _ h => h) (Or.inl ⟨by kernel_rfl, ?hye48⟩) hHeld ?reste48
        case hye48 => (intro w hSw; go_simp; first | done | (with_reducible rfl))
        try simp only [Act.put, List.append, PA, set16]
        try simp only [PB]
        refine wpAnyH_take (i := 48) (oi := _) (v := ?ve49) rfl (by kernel_rfl) (by kernel_rfl) (by kernel_rfl) (fun _ _ _ h => h) (Or.inl ⟨by kernel_rfl, ?hye49⟩) hHeld ?reste49
        case hye49 => (intro w hSw; go_simp; first | done | (with_reducible rfl))
        try simp only [Act.put, List.append, PA, set16]
        try simp only [PB]
        refine wpAnyH_take (i := 49) (oi := _) (v := ?ve50) rfl (by kernel_rfl) (by kernel_rfl) (by kernel_rfl) (fun _ _ _ h => h) (Or.inl ⟨by kernel_rfl, ?hye50⟩) hHeld ?reste50
        case hye50 => (intro w hSw; go_simp; first | done | (with_reducible rfl))
        try simp only [Act.put, List.append, PA, set16]
        try simp only [PB]
        refine wpAnyH_take (i := 50) (oi := _) (v := ?ve51) rfl (by kernel_rfl) (by kernel_rfl) (by kernel_rfl) (fun _ _ _ h => h) (Or.inl ⟨by kernel_rfl, ?hye51⟩) hHeld ?reste51
        case hye51 => (intro w hSw; have kr0 := hSw.cell (fun h => h) r0; have kr1 := hSw.cell (fun h => h) r1; have kt0 := hSw.cell (fun h => h) t0; have kt1 := hSw.cell (fun h => h) t1; have kp1 := hSw.cell (fun h => h) p1; go_simp; first | done | (with_reducible rfl))
        try simp only [Act.put, List.append, PA, set16]
        try simp only [PB]
        refine wpAnyH_ready (rs := [51]) (by kernel_rfl) (by simp) (AllReadyH.cons (o := _) rfl (fun K hK => ?_) AllReadyH.nil)
        go_simp
        refine (al4_cnt1 Q3 cq3 _ (hqs.keep (hHeld.toBelow (Below.refl _ _) (fun k hk => hk.elim) (Nat.le_refl _)))).mono ?_
        rintro e we52 ⟨rfl, hb3⟩
        go_wp2_with fail
        refine hK.out _ _ (hHeld.below hb3) (fun hNew => ?_)
        clear hb3
        clear hHeld hK K
        have hHeld := hNew
        clear hNew
        try simp only [Act.put, List.append, PA, set16]
        try simp only [PB]
        refine wpAnyH_take (i := 52) (oi := _) (v := ?ve53) rfl (by kernel_rfl) (by kernel_rfl) (by kernel_rfl) (fun _ _ _ h => h) (Or.inl ⟨by kernel_rfl, ?hye53⟩) hHeld ?reste53
        case hye53 => (intro w hSw; go_simp; first | done | (with_reducible rfl))
        try simp only [Act.put, List.append, PA, set16]
        try simp only [PB]
        refine wpAnyH_take (i := 53) (oi := _) (v := ?ve54) rfl (by kernel_rfl) (by kernel_rfl) (by kernel_rfl) (fun _ _ _ h => h) (Or.inl ⟨by kernel_rfl, ?hye54⟩) hHeld ?reste54
        case hye54 => (intro w hSw; go_simp; first | done | (with_reducible rfl))
        try simp only [Act.put, List.append, PA, set16]
        try simp only [PB]
        refine wpAnyH_take (i := 54) (oi := _) (v := ?ve55) rfl (by kernel_rfl) (by kernel_rfl) (by kernel_rfl) (fun _ _ _ h => h) (Or.inl ⟨by kernel_rfl, ?hye55⟩) hHeld ?reste55
        case hye55 => (intro w hSw; go_simp; first | done | (with_reducible rfl))
        try simp only [Act.put, List.append, PA, set16]
        try simp only [PB]
        refine wpAnyH_take (i := 55) (oi := _) (v := ?ve56) rfl (by kernel_rfl) (by kernel_rfl) (by kernel_rfl) (fun _ _ _ h => h) (Or.inl ⟨by kernel_rfl, ?hye56⟩) hHeld ?reste56
        case hye56 => (intro w hSw; go_simp; first | done | (with_reducible rfl))
        try simp only [Act.put, List.append, PA, set16]
        try simp only [PB]
        refine wpAnyH_take (i := 56) (oi := _) (v := ?ve57) rfl (by kernel_rfl) (by kernel_rfl) (by kernel_rfl) (fun _ _ _ h => h) (Or.inl ⟨by kernel_rfl, ?hye57⟩) hHeld ?reste57
        case hye57 => (intro w hSw; go_simp; first | done | (with_reducible rfl))
        try simp only [Act.put, List.append, PA, set16]
        try simp only [PB]
        refine wpAnyH_take (i := 57) (oi := _) (v := ?ve58) rfl (by kernel_rfl) (by kernel_rfl) (by kernel_rfl) (fun _ _ _ h => h) (Or.inl ⟨by kernel_rfl, ?hye58⟩) hHeld ?reste58
        case hye58 => (intro w hSw; go_simp; first | done | (with_reducible rfl))
        try simp only [Act.put, List.append, PA, set16]
        try simp only [PB]
        refine wpAnyH_take (i := 58) (oi := _) (v := ?ve59) rfl (by kernel_rfl) (by kernel_rfl) (by kernel_rfl) (fun _ _ _ h => h) (Or.inl ⟨by kernel_rfl, ?hye59⟩) hHeld ?reste59
        case hye59 => (intro w hSw; go_simp; first | done | (with_reducible rfl))
        try simp only [Act.put, List.append, PA, set16]
        try simp only [PB]
        refine wpAnyH_take (i := 59) (oi := _) (v := ?ve60) rfl (by kernel_rfl) (by kernel_rfl) (by kernel_rfl) (fun _ _ _ h => h) (Or.inl ⟨by kernel_rfl, ?hye60⟩) hHeld ?reste60
        case hye60 => (intro w hSw; go_simp; first | done | (with_reducible rfl))
        try simp only [Act.put, List.append, PA, set16]
        try simp only [PB]
        refine wpAnyH_take (i := 60) (oi := _) (v := ?ve61) rfl (by kernel_rfl) (by kernel_rfl) (by kernel_rfl) (fun _ _ _ h => h) (Or.inl ⟨by kernel_rfl, ?hye61⟩) hHeld ?reste61
        case hye61 => (intro w hSw; go_simp; first | done | (with_reducible rfl))
        try simp only [Act.put, List.append, PA, set16]
        try simp only [PB]
        refine wpAnyH_take (i := 61) (oi := _) (v := ?ve62) rfl (by kernel_rfl) (by kernel_rfl) (by kernel_rfl) (fun _ _ _ h => h) (Or.inl ⟨by kernel_rfl, ?hye62⟩) hHeld ?reste62
        case hye62 => (intro w hSw; go_simp; first | done | (with_reducible rfl))
        try simp only [Act.put, List.append, PA, set16]
        try simp only [PB]
        refine wpAnyH_take (i := 62) (oi := _) (v := ?ve63) rfl (by kernel_rfl) (by kernel_rfl) (by kernel_rfl) (fun _ _ _ h => h) (Or.inl ⟨by kernel_rfl, ?hye63⟩) hHeld ?reste63
        case hye63 => (intro w hSw; go_simp; first | done | (with_reducible rfl))
        try simp only [Act.put, List.append, PA, set16]
        try simp only [PB]
        refine wpAnyH_take (i := 63) (oi := _) (v := ?ve64) rfl (by kernel_rfl) (by kernel_rfl) (by kernel_rfl) (fun _ _ _ h => h) (Or.inl ⟨by kernel_rfl, ?hye64⟩) hHeld ?reste64
        case hye64 => (intro w hSw; go_simp; first | done | (with_reducible rfl))
        try simp only [Act.put, List.append, PA, set16]
        try simp only [PB]
        refine wpAnyH_take (i := 64) (oi := _) (v := ?ve65) rfl (by kernel_rfl) (by kernel_rfl) (by kernel_rfl) (fun _ _ _ h => h) (Or.inl ⟨by kernel_rfl, ?hye65⟩) hHeld ?reste65
        case hye65 => (intro w hSw; go_simp; first | done | (with_reducible rfl))
        try simp only [Act.put, List.append, PA, set16]
        try simp only [PB]
        refine wpAnyH_take (i := 65) (oi := _) (v := ?ve66) rfl (by kernel_rfl) (by kernel_rfl) (by kernel_rfl) (fun _ _ _ h => h) (Or.inl ⟨by kernel_rfl, ?hye66⟩) hHeld ?reste66
        case hye66 => (intro w hSw; go_simp; first | done | (with_reducible rfl))
        try simp only [Act.put, List.append, PA, set16]
        try simp only [PB]
        refine wpAnyH_take (i := 66) (oi := _) (v := ?ve67) rfl (by kernel_rfl) (by kernel_rfl) (by kernel_rfl) (fun _ _ _ h => h) (Or.inl ⟨by kernel_rfl, ?hye67⟩) hHeld ?reste67
        case hye67 => (intro w hSw; go_simp; first | done | (with_reducible rfl))
        try simp only [Act.put, List.append, PA, set16]
        try simp only [PB]
        refine wpAnyH_take (i := 67) (oi := _) (v := ?ve68) rfl (by kernel_rfl) (by kernel_rfl) (by kernel_rfl) (fun _ _ _ h => h) (Or.inl ⟨by kernel_rfl, ?hye68⟩) hHeld ?reste68
        case hye68 => (intro w hSw; go_simp; first | done | (with_reducible rfl))
        try simp only [Act.put, List.append, PA, set16]
        try simp only [PB]
        refine wpAnyH_take (i := 68) (oi := _) (v := ?ve69) rfl (by kernel_rfl) (by kernel_rfl) (by kernel_rfl) (fun _ _ _ h => h) (Or.inl ⟨by kernel_rfl, ?hye69⟩) hHeld ?reste69
        case hye69 => (intro w hSw; go_simp; first | done | (with_reducible rfl))
        try simp only [Act.put, List.append, PA, set16]
        try simp only [PB]
        refine wpAnyH_take (i := 69) (oi := _) (v := ?ve70) rfl (by kernel_rfl) (by kernel_rfl) (by kernel_rfl) (fun _ _ _ h => h) (Or.inl ⟨by kernel_rfl, ?hye70⟩) hHeld ?reste70
        case hye70 => (intro w hSw; go_simp; first | done | (with_reducible rfl))
        try simp only [Act.put, List.append, PA, set16]
        try simp only [PB]
        refine wpAnyH_take (i := 70) (oi := _) (v := ?ve71) rfl (by kernel_rfl) (by kernel_rfl) (by kernel_rfl) (fun _ _ _ h => h) (Or.inl ⟨by kernel_rfl, ?hye71⟩) hHeld ?reste71
        case hye71 => (intro w hSw; go_simp; first | done | (with_reducible rfl))
        try simp only [Act.put, List.append, PA, set16]
        try simp only [PB]
        refine wpAnyH_done (by kernel_rfl) ?_ _
        refine NoPanic.normal ?_
        replace hbb := hHeld.toBelow hbb (fun k hk => hk.elim) hBV
        clear hHeld
        go_wp2_with fail
        go_ret
        exact ⟨rfl, hbb⟩
end Go.Proofs.Ytaaamcleilpnhaa
