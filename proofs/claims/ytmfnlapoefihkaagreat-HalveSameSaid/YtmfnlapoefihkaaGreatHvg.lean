/- Package halve: marksOf. -/
import Derived.Test.YtmfnlapoefihkaaGreatWb
import Derived.Test.YtmfnlapoefihkaaGreatMake
import Derived.Test.YtmfnlapoefihkaaGreatSd
import Derived.Test.YtmfnlapoefihkaaGreatWc
namespace Go.Proofs.YtmfnlapoefihkaaGreat
open Go.RowKit
theorem markInfo : (Tryz.prog.info? 114).map (fun i => (i.zero, i.size, i.bytes)) = some (some (.agg #[.int .i64 0, .int .i64 0, .int .i64 0]), 3, 24) := by kernel_rfl
theorem Mid.grown {B : Nat} {Wd W W' : World} {row : Option Nat} (h : Mid B Wd W) (hg : W.grownBy W' row) (hr : ∀ k, row = some k → k < B ∨ Wd.heap.size ≤ k) : Mid B Wd W' :=
  ⟨Nat.le_trans h.size hg.size, fun k h1 h2 => (hg.block k (by have := h.size; omega) (fun e => by have := hr k e.symm; omega)).trans (h.block k h1 h2)⟩
theorem Mid.gb' {B : Nat} {F : Nat → Prop} {Wd V W : World} (h : Mid B Wd V) (hg : GB F V W) (hF : ∀ k, B ≤ k → k < Wd.heap.size → ¬ F k) : Mid B Wd W :=
  ⟨Nat.le_trans h.size hg.size, fun k h1 h2 => (hg.block k (by have := h.size; omega) (hF k h1 h2)).trans (h.block k h1 h2)⟩
theorem hvbk_row3 {w : World} {B n : Nat} {e : TypeId} {v : Value} {xs : List Value} (h : w.ownsRow B e 3 v n xs) (hn : 0 < n) : ∃ g cap, v = .slice (some ⟨g, 0, none⟩) n cap ∧ B ≤ g ∧ n ≤ cap ∧ BK w g xs := by
  rcases h.2 with ⟨_, h0⟩ | ⟨g, cap, cur, hv, hb, hg, hc, _, hs, ht⟩
  · omega
  · have hlt : g < w.heap.size := (Array.getElem?_eq_some_iff.1 hg).1
    refine ⟨g, cap, hv, hb, hc, hlt, fun j x ej => ?_⟩; rw [← ht] at ej
    have hj : cur[j]? = some x := by
      rw [List.getElem?_take] at ej
      split at ej
      · simpa using ej
      · cases ej
    constructor
    · simp [World.cell?, hg, hj]
    · simp [World.frozen?, hg]
namespace Hv
/-- The log behind the first agents. -/
def lg (qs : List Qr) (qn : Nat → List Qr) (j : Nat) : List Qr := qs ++ (List.range j).flatMap qn
theorem lg_succ (qs : List Qr) (qn : Nat → List Qr) (j : Nat) : lg qs qn (j + 1) = lg qs qn j ++ qn j := by
  unfold lg
  rw [List.range_succ, List.flatMap_append, ← List.append_assoc]
  simp
/-- The marks of the first agents. -/
def mks (l : List Nat) (xs ys : Nat → Int) (j : Nat) : List Mk := (List.range j).map fun i => (l.getD i 0, xs i, ys i)
theorem mks_succ (l : List Nat) (xs ys : Nat → Int) (j : Nat) : mks l xs ys (j + 1) = mks l xs ys j ++ [(l.getD j 0, xs j, ys j)] := by
  unfold mks
  rw [List.range_succ, List.map_append]
  rfl
theorem mks_len (l : List Nat) (xs ys : Nat → Int) (j : Nat) : (mks l xs ys j).length = j := by unfold mks; simp
end Hv
/-- What marksOf gives. -/
def MsQ (D : List CkD) (l : List Nat) (n : Nat) (L : List Qr) (xs ys : Nat → Int) (w : World) (e : Ending) (w' : World) : Prop :=
  ∃ (A2 : Option Addr) (ca2 : Nat) (Q2 : Option Addr) (cq2 : Nat) (l2 : List CkR) (g cap : Nat) (M : List Hv.Mk), e = .returned (.tuple #[.agg #[.slice A2 l2.length ca2, .slice Q2 L.length cq2], .slice (some ⟨g, 0, none⟩) n cap, .int .i64 0]) ∧ Below w.heap.size w w' ∧ l2.map Ak.dat = D ∧ FD w' w.heap.size A2 ca2 l2 Q2 cq2 L ∧
    M.Perm (Hv.mks l xs ys n) ∧ M.Pairwise Hv.Lx ∧ w.heap.size ≤ g ∧ BK w' g (Hv.cells3 M) ∧ n ≤ cap
set_option linter.unusedSimpArgs false in
set_option maxHeartbeats 8000000 in
set_option maxRecDepth 100000 in
theorem hvmarks_any (A : Option Addr) (ca : Nat) (cs : List CkR) (Q : Option Addr) (qs : List Qr) (cq p n cap : Nat) (l : List Nat) (len a b c d pn pd : Int) (qn : Nat → List Qr) (xs ys : Nat → Int) (w : World) (h : IsCs w A cs) (hq : IsQs w Q qs) (hB : BK w p (Hi.cells1 l)) (hn : l.length = n) (h2 : 2 ≤ n) (h6 : n ≤ 6) (hi : l.Pairwise fun a b => a < b) (hlt : ∀ x ∈ l, x < cs.length) (hl : (Ak.cat cs 0).len = len)
    (hpt : Rp.makeS ((n / 2 : Nat) : Int) (n : Int) = (pn, pd, 0)) (hp1 : I64 pn) (hp2 : I64 pd) (ha : I64 a) (hb : I64 b) (hcc : I64 c) (hd : I64 d)
    (hA : ∀ j, j < n → Hv.Asks (cs.map Ak.dat) len a b c d pn pd (l.getD j 0) (Hv.lg qs qn j).length (qn j) (xs j) (ys j)) (hok : ∀ j, j < n → Rp.Ok (xs j) (ys j)) :
    Calls Tryz.prog 58 #[.agg #[.slice A cs.length ca, .slice Q qs.length cq], .slice (some ⟨p, 0, none⟩) n cap, .agg #[.int .i64 a, .int .i64 b, .int .i64 c, .int .i64 d]] w (MsQ (cs.map Ak.dat) l n (Hv.lg qs qn n) xs ys w) := by
  have hf := fun v => hvhalf_any (some ⟨p, 0, none⟩) n cap v h6
  have mk := fun v => Make_any ((n / 2 : Nat) : Int) (n : Int) (by omega) (by omega) (by omega) (by omega) v
  rw [hpt] at mk; dsimp only at mk; have hpw := hB.lt
  have hf3 : ∀ s ∈ Hv.mks l xs ys n, Rp.Ok s.2.1 s.2.2 := fun s hs => by
    unfold Hv.mks at hs
    rw [List.mem_map] at hs; obtain ⟨i, hi, rfl⟩ := hs; exact hok i (List.mem_range.1 hi)
  have hpi : (Hv.mks l xs ys n).Pairwise fun a b => a.1 < b.1 := by
    unfold Hv.mks
    rw [List.pairwise_map, List.pairwise_iff_getElem]; intro i j h1 h2 h3; rw [List.length_range] at h1 h2
    simp only [List.getElem_range]
    rw [List.pairwise_iff_getElem] at hi; have := hi i j (by omega) (by omega) h3
    simpa [show i < l.length by omega, show j < l.length by omega] using this
  have st := fun g cp v (hb : BK v g (Hv.cells3 (Hv.mks l xs ys n))) => hvsort_any g n cp (Hv.mks l xs ys n) v (Hv.mks_len _ _ _ _) h6 hf3 hpi hb
  have am := fun v A1 ca1 l1 Q1 cq1 j (hj : j < n) (h : IsCs v A1 l1) (hq : IsQs v Q1 (Hv.lg qs qn j)) (hd1 : l1.map Ak.dat = cs.map Ak.dat) => hvmark_any A1 ca1 l1 Q1 (Hv.lg qs qn j) cq1 (l.getD j 0) len a b c d pn pd (qn j) (xs j) (ys j) v h hq
    (by have e := congrArg List.length hd1; simp only [List.length_map] at e; rw [e]; exact hlt _ (by rw [show l.getD j 0 = l[j]'(by omega) by simp [show j < l.length by omega]]; exact List.getElem_mem _))
    (by
      have e := congrArg List.length hd1
      simp only [List.length_map] at e
      have h0 : 0 < cs.length := Nat.lt_of_le_of_lt (Nat.zero_le _) (hlt (l[0]'(by omega)) (List.getElem_mem _)); have e2 := Ak.dAt_map l1 (k := 0) (by omega); rw [hd1, Ak.dAt_map cs h0] at e2; have e3 := congrArg (fun z => z.1) e2
      exact (show (Ak.cat cs 0).len = (Ak.cat l1 0).len from e3).symm.trans hl) hp1 hp2 ha hb hcc hd (by rw [hd1]; exact hA j hj)
  have HFF := Lib.hid hf; have MK := Lib.hid mk; have ST := Lib.hid st; have AM := Lib.hid am; have HN := Lib.hid hn; clear hf mk st am hpt hA hok hf3 hpi hlt hl hi hn hp1 hp2 ha hb hcc hd
  unfold MsQ
  go_enter Tryz.func58, Tryz.ntmps58
  go_upto_region 1 with fail
  refine at_box3 (fun V hbb B0 B1 B2 hVs => ?_); (go_wp2_with fail); refine (HFF.out _).mono ?_; rintro e w1 ⟨rfl, rfl⟩; (go_wp2_with fail); refine (MK.out _).mono ?_; rintro e w2 ⟨rfl, hb2⟩; replace hbb := keepB hbb hb2; replace B0 := B0.keep hb2; replace B1 := B1.keep hb2; replace B2 := B2.keep hb2; have hsz2 := hb2.size; clear hb2
  go_upto_region 2 with fail
  refine at_worldQ (fun v => Below w.heap.size w v ∧ BK v w.heap.size [.slice A cs.length ca, .slice Q qs.length cq] ∧ BK v (w.heap.size + 1) [.int .i64 a, .int .i64 b, .int .i64 c, .int .i64 d] ∧ BK v (w.heap.size + 2) [.slice none 0 0, .slice none 0 0] ∧ BK v w2.heap.size [.int .i64 pn, .int .i64 pd] ∧ v.heap.size = w2.heap.size + 1) ⟨below_al hbb _, B0.al _, B1.al _, B2.al _, BK.new _ _ _, by simp only [World.size_alloc]⟩ (fun V2 hS => ?_); clear hbb B0 B1 B2; obtain ⟨hbb, B0, B1, B2, B3, hsV⟩ := hS
  have hsz3 : w.heap.size + 3 ≤ w2.heap.size := by omega
  clear hsz2 hVs
  generalize w2.heap.size = P3 at *
  have H0 := Lib.hid h; have HQ0 := Lib.hid hq; clear h hq; obtain ⟨i0, hi0, hz0, hz1, hz2⟩ := info_parts markInfo; have HI := Lib.hid hi0; have HI2 := Lib.hid hz0; have HI3 := Lib.hid hz1; have HI4 := Lib.hid hz2; clear hi0 hz0 hz1 hz2; (go_wp2_with fail)
  go_loopw [7, 24] (fun s i W => ∃ (j : Nat), j ≤ n ∧ i = .int .i64 (j : Nat) ∧ W.ownsRow (P3 + 1) 114 3 s j (Hv.cells3 (Hv.mks l xs ys j)) ∧ BK W (w.heap.size + 1) [.int .i64 a, .int .i64 b, .int .i64 c, .int .i64 d] ∧ BK W (w.heap.size + 2) [.slice none 0 0, .slice none 0 0] ∧ BK W P3 [.int .i64 pn, .int .i64 pd] ∧ P3 + 1 ≤ W.heap.size ∧ Below w.heap.size w W ∧ ∃ A1 ca1 l1 Q1 cq1, BK W w.heap.size [.slice A1 l1.length ca1, .slice Q1 (Hv.lg qs qn j).length cq1] ∧ Hid (l1.map Ak.dat = cs.map Ak.dat) ∧ Hid (IsCs W A1 l1) ∧ Hid (IsQs W Q1 (Hv.lg qs qn j)) ∧ Hid (1 ≤ j → ∃ (Wd : World) (lo : Nat), FD Wd lo A1 ca1 l1 Q1 cq1 (Hv.lg qs qn j) ∧ Mid lo Wd W ∧ P3 + 1 ≤ lo ∧ ∀ g, s.ownBlock = some g → g < lo ∨ Wd.heap.size ≤ g)) (fun _ i _ => n - (intOf i).toNat)
  case atStart =>
    refine ⟨0, by omega, rfl, World.ownsRow_nil _ _ _ _, B1, B2, B3, by omega, hbb, A, ca, cs, Q, cq, ?_, Lib.hid rfl, Lib.hid (H0.out.keep hbb), Lib.hid ?_, Lib.hid (fun h => by omega)⟩
    · have e : Hv.lg qs qn 0 = qs := by unfold Hv.lg; simp
      rw [e]; exact B0
    · have e : Hv.lg qs qn 0 = qs := by unfold Hv.lg; simp
      rw [e]; exact HQ0.out.keep hbb
  case round =>
    clear hbb B0 B1 B2 B3 hsV; obtain ⟨j, hj, rfl, hO, B1, B2, B3, hsW, hbb, A1, ca1, l1, Q1, cq1, B0, hD1, hC1, hQ1, hF1⟩ := hrel
    by_cases hjn : j < n
    · have i1 : (j : Int) < (n : Int) := by omega
      have hBp := hB.keep hbb; have hav := hBp.c j (x := .int .i64 ((l.getD j 0 : Nat) : Int)) (by unfold Hi.cells1; rw [List.getElem?_map]; simp [show j < l.length by have := HN.out; omega]); have AJ := Lib.hid (fun v (hv : Below wr.heap.size wr v) => AM.out v A1 ca1 l1 Q1 cq1 j hjn (hC1.out.keep hv) (hQ1.out.keep hv) hD1.out); have HLG := Lib.hid (Hv.lg_succ qs qn j); have HMK := Lib.hid (Hv.mks_succ l xs ys j); obtain ⟨T, hT⟩ : ∃ T, Hv.mks l xs ys j = T := ⟨_, rfl⟩; rw [hT] at hO HMK; obtain ⟨ag, hag⟩ : ∃ z, l.getD j 0 = z := ⟨_, rfl⟩; rw [hag] at hav AJ HMK; obtain ⟨Lj, hLj⟩ : ∃ z, Hv.lg qs qn j = z := ⟨_, rfl⟩; rw [hLj] at AJ HLG B0
      unfold HvQ at AJ
      obtain ⟨x, hx⟩ : ∃ z, xs j = z := ⟨_, rfl⟩; obtain ⟨y, hy⟩ : ∃ z, ys j = z := ⟨_, rfl⟩; rw [hx, hy] at AJ HMK; clear hT hag hLj hx hy hC1 hQ1 hF1 hBp
      go_upto_region 6 with fail
      refine at_worldQ (fun v => v.ownsRow (P3 + 1) 114 3 _ j (Hv.cells3 T) ∧ BK v (w.heap.size + 1) [.int .i64 a, .int .i64 b, .int .i64 c, .int .i64 d] ∧ BK v (w.heap.size + 2) [.slice none 0 0, .slice none 0 0] ∧ BK v P3 [.int .i64 pn, .int .i64 pd] ∧ Below wr.heap.size wr v ∧ BK v w.heap.size [.slice A1 l1.length ca1, .slice Q1 Lj.length cq1] ∧ BK v wr.heap.size [.int .i64 (ag : Nat), .int .i64 0, .int .i64 0] ∧ v.heap.size = wr.heap.size + 1) ⟨World.ownsRow.alloc hO _, B1.al _, B2.al _, B3.al _, below_al (Below.refl _ _) _, B0.al _, BK.new _ _ _, by simp only [World.size_alloc]⟩ (fun V6 hS => ?_)
      have hrl := fun g h => World.ownsRow.lt hO g h
      clear hO B1 B2 B3 B0 hav; obtain ⟨hO, B1, B2, B3, hbw, B0, BX, hs6⟩ := hS; have p0 := B0.c 0 rfl; have p1 := B0.c 1 rfl; have s0 := B1.c 0 rfl; have s1 := B1.c 1 rfl; have s2 := B1.c 2 rfl; have s3 := B1.c 3 rfl; have q0 := B3.c 0 rfl; have q1 := B3.c 1 rfl; (go_wp2_with fail); refine (AJ.out _ hbw).mono ?_; rintro e w7 ⟨A2, m2, ca2, Q2, n2, cq2, l2, rfl, hb, hm2, hn2, hd2, hfd⟩; clear p0 p1 s0 s1 s2 s3 q0 q1; have HM2 := Lib.hid hm2; have HN2 := Lib.hid hn2; clear hm2 hn2; have hsz7 := hb.size; replace hbb := keepB (keepB hbb hbw) hb; replace hO := row_keep hO hb; replace B0 := B0.keep hb; replace B1 := B1.keep hb; replace B2 := B2.keep hb; replace B3 := B3.keep hb; replace BX := BX.keep hb; have HFD := Lib.hid hfd; have HD2 := Lib.hid hd2; clear hb hfd hd2 hbw; have hbs := hbb.size; have r0 := B0.c 0 rfl; have r1 := B0.c 1 rfl; have f0 := B0.f 0 rfl; have f1 := B0.f 1 rfl; have x1_ := BX.c 1 rfl; have x2_ := BX.c 2 rfl; have g1 := BX.f 1 rfl; have g2 := BX.f 2 rfl
      go_upto_region 9 with fail
      refine at_worldQ (fun v => v.ownsRow (P3 + 1) 114 3 _ j (Hv.cells3 T) ∧ BK v (w.heap.size + 1) [.int .i64 a, .int .i64 b, .int .i64 c, .int .i64 d] ∧ BK v (w.heap.size + 2) [.slice none 0 0, .slice none 0 0] ∧ BK v P3 [.int .i64 pn, .int .i64 pd] ∧ Below w.heap.size w v ∧ BK v w.heap.size [.slice A2 m2 ca2, .slice Q2 n2 cq2] ∧ BK v wr.heap.size [.int .i64 (ag : Nat), .int .i64 x, .int .i64 y] ∧ w7.heap.size ≤ v.heap.size ∧ Mid V6.heap.size w7 v) ⟨row_far (row_far (row_far (row_far hO (fun e => by have := hrl _ e; omega) _) (fun e => by have := hrl _ e; omega) _) (fun e => by have := hrl _ e; omega) _) (fun e => by have := hrl _ e; omega) _, (((B1.far (by omega) _ _).far (by omega) _ _).far (by omega) _ _).far (by omega) _ _, (((B2.far (by omega) _ _).far (by omega) _ _).far (by omega) _ _).far (by omega) _ _, (((B3.far (by omega) _ _).far (by omega) _ _).far (by omega) _ _).far (by omega) _ _, below_set (below_set (below_set (below_set hbb (by omega) _) (by omega) _) (by omega) _) (by omega) _, (((B0.set 0 _).set 1 _).far (by omega) _ _).far (by omega) _ _, (((BX.far (by omega) _ _).far (by omega) _ _).set 1 _).set 2 _, by simp only [World.size_setCell]; omega, ((((Mid.refl _ _).set (.inl (by omega)) _).set (.inl (by omega)) _).set (.inl (by omega)) _).set (.inl (by omega)) _⟩ (fun V9 hS => ?_); clear hO B0 B1 B2 B3 BX hbb r0 r1 f0 f1 x1_ x2_ g1 g2 hbs; obtain ⟨hO, B1, B2, B3, hbb, B0, BX, hs9, hmid⟩ := hS; have y0 := BX.c 0 rfl; have y1 := BX.c 1 rfl; have y2 := BX.c 2 rfl
      have hjl : j ≤ 6 := by omega
      go_wp2_with (at_builtin; go_loud (refine wpList_append_lies _ rfl _ _ _ rfl (P3 + 1) 114 i0 _ 3 24 Tryz.underlying109 HI.out HI2.out HI3.out HI4.out rfl (by omega) _ j (Hv.cells3 T) (by rfl) (World.ownsRow.alloc hO _) ⟨V9.heap.size, 0, none⟩ 1 1 [.int .i64 (ag : Nat), .int .i64 x, .int .i64 y] (by rfl) (by rfl) (World.news_of_block (cs := #[.int .i64 (ag : Nat), .int .i64 x, .int .i64 y]) (t := 114) (fr := (0, 0)) (heap_alloc_new V9 _)) (by simp [Value.oneCell']) (by omega) (by unfold maxLen; omega) (by omega) (by simp; omega) (V9.heap.size + 1) (by simp) ?_); intro g cp w10 hown1 hgrow hat hglt)
      all_goals
        (try go_wp2_with fail)
        go_roundw
        case rel =>
          have hgs := hgrow.size
          simp only [World.size_alloc] at hgs
          refine ⟨j + 1, by omega, by go_num, ?_, (B1.al _).grown hgrow (fun e => by have := hrl _ e; omega), (B2.al _).grown hgrow (fun e => by have := hrl _ e; omega), (B3.al _).grown hgrow (fun e => by have := hrl _ e; omega), by omega, (below_al hbb _).grown hgrow (by simp; omega) (fun k e => by have := (hrl k e).1; omega), A2, ca2, l2, Q2, cq2, ?_, Lib.hid (HD2.out.trans hD1.out), Lib.hid ?_, Lib.hid ?_, Lib.hid (fun _ => ⟨w7, V6.heap.size, ?_, ?_, by omega, fun k e => ?_⟩)⟩
          · rw [HMK.out, Hv.cells3_app]
            exact hown1
          · rw [HLG.out, ← HN2.out, ← HM2.out]
            exact (B0.al _).grown hgrow (fun e => by have := hrl _ e; omega)
          · exact (HFD.out.mid (Mid.grown (hmid.al _) hgrow (fun k e => .inl (by have := (hrl k e).2; omega)))).isCs
          · rw [HLG.out]
            exact (HFD.out.mid (Mid.grown (hmid.al _) hgrow (fun k e => .inl (by have := (hrl k e).2; omega)))).isQs
          · rw [HLG.out]
            exact HFD.out
          · exact Mid.grown (hmid.al _) hgrow (fun k e => .inl (by have := (hrl k e).2; omega))
          · obtain rfl : g = k := by simpa [Value.ownBlock] using e
            rcases hat with hat | hat
            · exact .inl (by have := (hrl _ hat).2; omega)
            · exact .inr (by omega)
        case measure => (simp [intOf] <;> omega)
    · obtain rfl : j = n := by omega
      have i1 : ¬ (j : Int) < (j : Int) := by omega
      obtain ⟨g, cp, rfl, hg, hcap, hBR⟩ := hvbk_row3 hO (by omega); obtain ⟨Wd, lo, hfd, hmid, hlo, hgs⟩ := hF1.out (by omega); replace hgs := hgs g rfl; have SS := Lib.hid (ST.out g cp _ hBR); have hbs := hbb.size; have hmd := hmid.size; have HFD := Lib.hid hfd; have HMI := Lib.hid hmid; clear hO hF1 hC1 hQ1 hBR hfd hmid B1 B3; (go_wp2_with fail); refine SS.out.mono ?_; rintro e w8 ⟨rfl, M, hpm, hsm, hBM, hGB⟩; have hs8 := hGB.size; replace B0 := B0.gb hGB (fun h => by omega); replace B2 := B2.gb hGB (fun h => by omega); have hmid8 := Mid.gb' HMI.out hGB (fun k h1 h2 hk => by omega); have hb8 := hGB.toBelow hbb (fun k hk => by omega) (by omega); have HFD8 := Lib.hid ((((HFD.out.mid hmid8).set (p := w.heap.size + 2) (o := 0) (by omega) (.slice A1 l1.length ca1)).set (p := w.heap.size + 2) (o := 1) (by omega) (.slice Q1 (Hv.lg qs qn j).length cq1)).mono (show w.heap.size ≤ lo by omega)); have HBM := Lib.hid ((hBM.far (show w.heap.size + 2 ≠ g by omega) 0 (.slice A1 l1.length ca1)).far (show w.heap.size + 2 ≠ g by omega) 1 (.slice Q1 (Hv.lg qs qn j).length cq1)); have HPM := Lib.hid hpm; have HSM := Lib.hid hsm; clear hpm hsm hBM hGB hmid8 hbb; have p0 := B0.c 0 rfl; have p1 := B0.c 1 rfl; have r0 := B2.c 0 rfl; have r1 := B2.c 1 rfl; have f0 := B2.f 0 rfl; have f1 := B2.f 1 rfl; (go_wp2_with fail); exact bodyPost_ret (v := .tuple #[.agg #[.slice A1 l1.length ca1, .slice Q1 (Hv.lg qs qn j).length cq1], .slice (some ⟨g, 0, none⟩) j cp, .int .i64 0]) (by simp [results, Tryz.results58, go_sem, r0, r1]) rfl ⟨A1, ca1, Q1, cq1, l1, g, cp, M, rfl, below_set (below_set hb8 (by omega) _) (by omega) _, hD1.out, HFD8.out, HPM.out, HSM.out, by omega, HBM.out, hcap⟩
end Go.Proofs.YtmfnlapoefihkaaGreat

