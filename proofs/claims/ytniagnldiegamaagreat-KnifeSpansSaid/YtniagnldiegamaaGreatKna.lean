/- Package knife: whole, compare, less, end, share, everybody. -/
import Derived.Test.YtniagnldiegamaaGreatGk
import Derived.Test.YtniagnldiegamaaGreatSd
import Derived.Test.YtniagnldiegamaaGreatGm
import Derived.Test.YtniagnldiegamaaGreatMake
import Derived.Test.YtniagnldiegamaaGreatPoint
import Derived.Test.YtniagnldiegamaaGreatGf
import Derived.Deep.CutBlock
import Derived.Deep.DeepCutAuto
set_option linter.unusedSimpArgs false
set_option maxHeartbeats 8000000
set_option maxRecDepth 100000
namespace Go.Proofs.YtniagnldiegamaaGreat
open Go.RowKit
theorem knwhole_any (n : Int) (w : World) : Calls Tryz.prog 46 #[.int .i64 n] w fun e w' => e = .returned (.agg #[.int .i64 n, .int .i64 1]) ∧ Below w.heap.size w w' := by
  go_enter Tryz.func46, Tryz.ntmps46
  go_wp2
  exact bodyPost_ret (v := .agg #[.int .i64 n, .int .i64 1]) (by simp [results, Tryz.results46, go_sem]) rfl ⟨rfl, (Below.refl _ _).alloc (Nat.le_refl _) _⟩
theorem kncompare_any (n d m c : Int) (h : Rp.Ok n d) (k : Rp.Ok m c) (w : World) :
    Calls Tryz.prog 106 #[.agg #[.int .i64 n, .int .i64 d], .agg #[.int .i64 m, .int .i64 c]] w fun e w' => e = .returned (.int .i64 (Rp.cmpQ (Rp.q n d) (Rp.q m c))) ∧ Below w.heap.size w w' := by
  have h' := h; have k' := k; obtain ⟨h1, h2, h3, h4, _⟩ := h'; obtain ⟨k1, k2, k3, k4, _⟩ := k'
  have cc := fun w => Cmp_any n d m c w (by omega) (by omega) (by omega) (by omega) (by omega) (by omega) (by omega) (by omega)
  rw [Rp.cmpS_ok h k] at cc
  generalize Rp.cmpQ (Rp.q n d) (Rp.q m c) = R at *
  have CC := Lib.hid cc; clear cc h k
  go_enter Tryz.func106, Tryz.ntmps106
  (go_wp2_with fail); refine (CC.out _).mono ?_; rintro e w1 ⟨rfl, hb1⟩; have hbb : Below w.heap.size w w1 := keepB (((Below.refl _ _).alloc (Nat.le_refl _) _).alloc (by simp) _) hb1; clear hb1 CC
  go_wp2
  go_ret
  exact ⟨rfl, hbb⟩
theorem knless_any (n d m c : Int) (h : Rp.Ok n d) (k : Rp.Ok m c) (w : World) :
    Calls Tryz.prog 77 #[.agg #[.int .i64 n, .int .i64 d], .agg #[.int .i64 m, .int .i64 c]] w fun e w' => e = .returned (.bool (decide (Rp.q n d < Rp.q m c))) ∧ Below w.heap.size w w' := by
  have cc := fun w => kncompare_any n d m c h k w
  have HD := Lib.hid (Rp.cmpQ_neg (Rp.q n d) (Rp.q m c))
  generalize Rp.cmpQ (Rp.q n d) (Rp.q m c) = R at *
  have CC := Lib.hid cc; clear cc h k
  go_enter Tryz.func77, Tryz.ntmps77
  (go_wp2_with fail); refine (CC.out _).mono ?_; rintro e w1 ⟨rfl, hb1⟩; have hbb : Below w.heap.size w w1 := keepB (((Below.refl _ _).alloc (Nat.le_refl _) _).alloc (by simp) _) hb1; clear hb1 CC
  go_wp2
  go_ret
  exact ⟨by rw [← HD.out]; rfl, hbb⟩
theorem knend_any (A : Option Addr) (ca : Nat) (cs : List CkR) (Q : Option Addr) (m cq : Nat) (len : Int) (w : World) (h : IsCs w A cs) (h0 : 0 < cs.length) (hl : (Ak.cat cs 0).len = len) :
    Calls Tryz.prog 74 #[.agg #[.slice A cs.length ca, .slice Q m cq]] w fun e w' => e = .returned (.agg #[.int .i64 len, .int .i64 1]) ∧ Below w.heap.size w w' := by
  obtain ⟨bb, o, hA, hcl⟩ := h.at_; obtain rfl := hA h0; have hc0 := (hcl 0 h0).1; rw [hl, show o + 0 * 3 = o by omega] at hc0
  have wh := fun v => knwhole_any len v
  have WHH := Lib.hid wh
  have i1 : (0 : Int) < (cs.length : Int) := by omega
  clear hcl hA h hl wh
  go_enter Tryz.func74, Tryz.ntmps74
  go_upto_region 1 with fail
  refine at_box2 (fun V hbb B0 B1 hVs => ?_); have p0 := B0.c 0 rfl; have c0 := keepC hbb hc0; (go_wp2_with fail); refine (WHH.out _).mono ?_; rintro e w1 ⟨rfl, hb⟩; replace hbb := keepB hbb hb; replace B1 := B1.keep hb; clear hb c0 p0 B0; have r0 := B1.c 0 rfl; have r1 := B1.c 1 rfl; have g0 := B1.f 0 rfl; have g1 := B1.f 1 rfl; (go_wp2_with fail); exact bodyPost_ret (v := .agg #[.int .i64 len, .int .i64 1]) (by simp [results, Tryz.results74, go_sem, r0, r1]) rfl ⟨rfl, below_set (below_set hbb (by omega) _) (by omega) _⟩
theorem knshare_any (A : Option Addr) (ca : Nat) (cs : List CkR) (Q : Option Addr) (m cq k : Nat) (n : Int) (w : World) (h : IsCs w A cs) (hm : m ≤ maxLen) (hc : Ak.chkS (cs.map Ak.dat) m = 0) (hk : k < cs.length) (hn : n = (cs.length : Nat)) :
    Calls Tryz.prog 76 #[.agg #[.slice A cs.length ca, .slice Q m cq], .int .i64 k] w fun e w' => e = .returned (.agg #[.int .i64 (Ch.sh n (Ak.dAt (cs.map Ak.dat) k)).1, .int .i64 (Ch.sh n (Ak.dAt (cs.map Ak.dat) k)).2.1]) ∧ Below w.heap.size w w' := by
  have hgd := Ak.chkS_good hc; have hl1 := hgd.l0; have hl6 := hgd.l1; rw [List.length_map] at hl1 hl6; have hck := hgd.all (Ak.dat (Ak.cat cs k)) (List.mem_map_of_mem (Ak.cat_mem hk))
  have tot := fun v (hv : Below w.heap.size w v) => askTotal_good A ca cs Q m cq k v (h.keep hv) hm hc hk
  rw [Ak.dAt_map cs hk]
  have ht : Ck.totS (Ak.cat cs k).len (Ak.cat cs k).cuts (Ak.cat cs k).dens = (Ck.tot (Ak.cat cs k).cuts (Ak.cat cs k).dens (Ak.cat cs k).dens.length, 0) := by
    unfold Ck.totS
    rw [if_pos (show Ck.chk (Ak.cat cs k).len (Ak.cat cs k).cuts (Ak.cat cs k).dens = 0 from hck)]
  rw [ht] at tot; have hG := Ck.chk_good (show Ck.chk _ _ _ = 0 from hck); have t0 := (Ck.tot_bd hG _ (Nat.le_refl _)).1; have t1 := (Ck.tot_bd hG _ (Nat.le_refl _)).2; have l1 := hG.len1; have la := hG.last; have hf : Ch.sh n (Ak.dat (Ak.cat cs k)) = Rp.makeS (Ck.tot (Ak.cat cs k).cuts (Ak.cat cs k).dens (Ak.cat cs k).dens.length) n := rfl
  dsimp only [Ak.dat] at l1 la t0 t1
  dsimp only at tot; rw [hf]
  have t2 : Ck.tot (Ak.cat cs k).cuts (Ak.cat cs k).dens (Ak.cat cs k).dens.length ≤ 12000 := by omega
  clear hf ht la l1 t1 hG hck hgd
  generalize Ck.tot (Ak.cat cs k).cuts (Ak.cat cs k).dens (Ak.cat cs k).dens.length = T at *
  have mk := fun v => Make_any T n (by omega) (by omega) (by omega) (by omega) v
  generalize Rp.makeS T n = M at *
  obtain ⟨M1, M2, M3⟩ := M; dsimp only at mk ⊢; obtain ⟨nc, hnc⟩ : ∃ z, cs.length = z := ⟨_, rfl⟩; rw [hnc] at tot hn ⊢; subst hn; have TOT := Lib.hid tot; have MK := Lib.hid mk; clear tot mk h hm hc hk t0 t2 hnc hl1 hl6
  go_enter Tryz.func76, Tryz.ntmps76
  go_upto_region 1 with fail
  refine at_box2 (fun V hbb B0 B1 hVs => ?_); have p0 := B0.c 0 rfl; have p1 := B0.c 1 rfl; (go_wp2_with fail); refine (TOT.out _ hbb).mono ?_; rintro e w1 ⟨rfl, hb⟩; clear p0 p1; replace hbb := keepB hbb hb; replace B0 := B0.keep hb; replace B1 := B1.keep hb; clear hb; have p0 := B0.c 0 rfl; (go_wp2_with fail); refine (MK.out _).mono ?_; rintro e w2 ⟨rfl, hb⟩; clear p0; replace hbb := keepB hbb hb; replace B1 := B1.keep hb; clear hb B0
  go_upto_region 3 with fail
  refine at_worldQ (fun v => Below w.heap.size w v ∧ BK v (w.heap.size + 1) [.int .i64 0, .int .i64 0] ∧ BK v w2.heap.size [.int .i64 M1, .int .i64 M2]) ⟨below_al hbb _, B1.al _, BK.new _ _ _⟩ (fun V3 hS => ?_); have hw2 := hbb.size; clear hbb B1; obtain ⟨hbb, B1, B2⟩ := hS; have a0 := B2.c 0 rfl; have a1 := B2.c 1 rfl; have r0 := B1.c 0 rfl; have r1 := B1.c 1 rfl; have g0 := B1.f 0 rfl; have g1 := B1.f 1 rfl; (go_wp2_with fail); exact bodyPost_ret (v := .agg #[.int .i64 M1, .int .i64 M2]) (by simp [results, Tryz.results76, go_sem, r0, r1]) rfl ⟨rfl, by repeat (first | exact hbb | refine below_set ?_ (by omega) _)⟩
theorem knbk_rown {w : World} {B n : Nat} {e : TypeId} {v : Value} {xs : List Value} (h : w.ownsRow B e 1 v n xs) (hn : 0 < n) : ∃ g cap, v = .slice (some ⟨g, 0, none⟩) n cap ∧ B ≤ g ∧ n ≤ cap ∧ BK w g xs := by
  rcases h.2 with ⟨_, h0⟩ | ⟨g, cap, cur, hv, hb, hg, hc, _, hs, ht⟩
  · omega
  · have hlt : g < w.heap.size := (Array.getElem?_eq_some_iff.1 hg).1
    refine ⟨g, cap, hv, hb, hc, hlt, fun j x ej => ?_⟩; rw [← ht] at ej
    have hj : cur[j]? = some x := by
      rw [List.getElem?_take] at ej
      split at ej
      · simpa using ej
      · cases ej
    constructor
    · simp [World.cell?, hg, hj]
    · simp [World.frozen?, hg]
/-- The numbers of the first agents. -/
def Kn.rng (k : Nat) : List Int := (List.range k).map fun (j : Nat) => (j : Int)
theorem Kn.rng_len (k : Nat) : (Kn.rng k).length = k := by unfold Kn.rng; simp
theorem Kn.rng_succ (k : Nat) : Kn.rng (k + 1) = Kn.rng k ++ [(k : Int)] := by unfold Kn.rng; rw [List.range_succ, List.map_append]; rfl
theorem knevery_any (A : Option Addr) (n ca : Nat) (Q : Option Addr) (m cq : Nat) (w : World) (h1 : 1 ≤ n) (h6 : n ≤ 6) :
    Calls Tryz.prog 47 #[.agg #[.slice A n ca, .slice Q m cq]] w fun e w' => ∃ g cap : Nat, e = .returned (.slice (some ⟨g, 0, none⟩) n cap) ∧ w.heap.size ≤ g ∧ n ≤ cap ∧ BK w' g ((Kn.rng n).map (Value.int .i64)) ∧ Below w.heap.size w w' := by
  obtain ⟨i0, hi0, hz0, hz1, hz2⟩ := info_parts intInfo; have HI := Lib.hid hi0; have HI2 := Lib.hid hz0; have HI3 := Lib.hid hz1; have HI4 := Lib.hid hz2; clear hi0 hz0 hz1 hz2
  go_enter Tryz.func47, Tryz.ntmps47
  go_upto_region 1 with fail
  refine at_box1 (fun V hbb B0 hVs => ?_); have p0 := B0.c 0 rfl; (go_wp2_with fail); clear p0
  go_loopw [3, 8] (fun s i W => ∃ k : Nat, k ≤ n ∧ i = .int .i64 k ∧ Own W (w.heap.size + 1) s (Kn.rng k) ∧ Below w.heap.size w W ∧ w.heap.size + 1 ≤ W.heap.size) (fun _ i _ => n - (intOf i).toNat)
  case atStart => exact ⟨0, Nat.zero_le _, rfl, Own.nil_ _ _, hbb, by omega⟩
  case round =>
    clear hbb B0 hVs; obtain ⟨k, hk, rfl, hO, hbb, hws⟩ := hrel
    by_cases hlt : k < n
    · have i2 : (k : Int) < (n : Int) := by omega
      have HT := Lib.hid (Kn.rng_succ k); have HL := Lib.hid (Kn.rng_len k); obtain ⟨T, hT⟩ : ∃ T, Kn.rng k = T := ⟨_, rfl⟩; rw [hT] at hO; have HT2 := Lib.hid hT
      have hnT : T.length = k := by rw [← hT]; exact Kn.rng_len k
      obtain ⟨nE, hE'⟩ : ∃ z, T.length = z := ⟨_, rfl⟩; have hE := Lib.hid hE'
      have hk6 : nE ≤ 6 := by omega
      unfold Own at hO
      rw [hE'] at hO; clear hT hnT hE'
      go_wp2_with (at_builtin; refine wpList_append_lies _ rfl _ _ _ rfl (w.heap.size + 1) 3 i0 _ 1 8 Tryz.underlying59 HI.out HI2.out HI3.out HI4.out rfl (by omega) _ nE (T.map (Value.int .i64)) (by rfl) (World.ownsRow.alloc hO _) ⟨wr.heap.size, 0, none⟩ 1 1 [.int .i64 (k : Int)] (by rfl) (by rfl) (World.news_of_block (cs := #[.int .i64 (k : Int)]) (t := 3) (fr := (0, 0)) (heap_alloc_new wr _)) (by simp [Value.oneCell']) (by omega) (by unfold maxLen; omega) (by omega) (by simp; omega) (wr.heap.size + 1) (by simp) ?_; intro g cap w1 hown1 hgrow hat hglt)
      all_goals
        (try go_wp2_with fail)
        go_roundw
        case rel =>
          refine ⟨k + 1, by omega, by go_num, ?_, ?_, ?_⟩
          · rw [HT.out, HT2.out]
            unfold Own
            rw [List.length_append, hE.out, List.map_append]; exact hown1
          · exact (below_al hbb _).grown hgrow (by simp; omega) (fun j ej => by
              have := (World.ownsRow.lt hO j ej).1
              omega)
          · have := hgrow.size
            simp at this
            omega
        case measure => (simp [intOf] <;> omega)
    · obtain rfl : k = n := by omega
      unfold Own at hO
      rw [Kn.rng_len] at hO; obtain ⟨g, cap, rfl, hg, hcap, hB⟩ := knbk_rown hO (by omega)
      have i2 : ¬ (k : Int) < (k : Int) := by omega
      have HB := Lib.hid hB; clear hO hB HI HI2 HI3 HI4; (go_wp2_with fail)
      go_ret
      exact ⟨g, cap, rfl, by omega, hcap, HB.out, hbb⟩
end Go.Proofs.YtniagnldiegamaaGreat

