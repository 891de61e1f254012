/- What the statements of layer 4 ask: ran. The walk of the law AskReplays: it answers true. -/
import Derived.Test.YtomokdepndclpaaSd
import Derived.Test.YtomokdepndclpaaAskalw
import Derived.Test.YtomokdepndclpaaSb
namespace Go.Proofs.Ytomokdepndclpaa
open Go.RowKit
namespace Ak
/-- A query as ran asks it. -/
def asks (q : Qr) : Qr := ⟨q.ag, if q.kd = 2 then 2 else 1, q.a, q.b, q.c, q.d, 0, 0⟩
def rstep (D : List CkD) (L : List Qr) (q : Qr) : List Qr := if putE D L.length (asks q) = 0 then L ++ [told D (asks q)] else L
def ranL (D : List CkD) (qs : List Qr) : List Qr := qs.foldl (rstep D) []
theorem ranL_snoc (D : List CkD) (qs : List Qr) {k : Nat} (h : k < qs.length) : ranL D (qs.take (k + 1)) = rstep D (ranL D (qs.take k)) (qat qs k) := by
  unfold ranL
  rw [List.take_add_one, List.getElem?_eq_getElem h, qat_lt h]
  simp only [Option.toList_some, List.foldl_append, List.foldl_cons, List.foldl_nil]
theorem rstep_len (D : List CkD) (L : List Qr) (q : Qr) : (rstep D L q).length ≤ L.length + 1 := by
  unfold rstep
  split <;> simp
theorem ranL_len (D : List CkD) (qs : List Qr) : ∀ k, k ≤ qs.length → (ranL D (qs.take k)).length ≤ k
  | 0, _ => by simp [ranL]
  | k + 1, h => by
    rw [ranL_snoc D qs (by omega)]
    have := rstep_len D (ranL D (qs.take k)) (qat qs k)
    have := ranL_len D qs k (by omega)
    omega
end Ak
/-- What a query that is put gives, in one form. -/
theorem PutQ.one {D : List CkD} {qs : List Qr} {q : Qr} {w w' : World} {e : Ending} (h : PutQ D qs q w e w') :
    ∃ (A : Option Addr) (m ca : Nat) (Q : Option Addr) (n cq : Nat) (r1 r2 : Int), e = .returned (.tuple #[.agg #[.slice A m ca, .slice Q n cq], .agg #[.int .i64 r1, .int .i64 r2], .int .i64 (Ak.putE D qs.length q)]) ∧ Below w.heap.size w w' ∧
      (Ak.putE D qs.length q = 0 → ∃ l, m = l.length ∧ n = (qs ++ [Ak.told D q]).length ∧ l.map Ak.dat = D ∧ FD w' w.heap.size A ca l Q cq (qs ++ [Ak.told D q])) := by
  obtain ⟨hb, ⟨hn, he⟩ | ⟨h0, A, ca, l, Q, cq, he, hdat, hfd⟩⟩ := h
  · exact ⟨none, 0, 0, none, 0, 0, 0, 0, he, hb, fun k => absurd k hn⟩
  · exact ⟨A, l.length, ca, Q, _, cq, (Ak.told D q).x, (Ak.told D q).y, by rw [he, h0], hb, fun _ => ⟨l, rfl, rfl, hdat, hfd⟩⟩
/-- What ran gives. -/
def RanQ (D : List CkD) (qs : List Qr) (w : World) (e : Ending) (w' : World) : Prop :=
  Below w.heap.size w w' ∧ ((Ak.chkS D 0 ≠ 0 ∧ e = .returned (.tuple #[.agg #[.slice none 0 0, .slice none 0 0], .int .i64 0, .bool false])) ∨
    (Ak.chkS D 0 = 0 ∧ ∃ A ca l Q cq, e = .returned (.tuple #[.agg #[.slice A l.length ca, .slice Q (Ak.ranL D qs).length cq], .int .i64 (Ak.ranL D qs).length, .bool true]) ∧ l.map Ak.dat = D ∧ FD w' w.heap.size A ca l Q cq (Ak.ranL D qs)))
set_option linter.unusedSimpArgs false in
set_option maxHeartbeats 8000000 in
set_option maxRecDepth 100000 in
theorem ran_any (A0 : Option Addr) (ca0 : Nat) (cs : List CkR) (Q0 : Option Addr) (cq0 : Nat) (qs : List Qr) (w : World) (h : IsCs w A0 cs) (hq : IsQs w Q0 qs) (hl : qs.length ≤ 30) :
    Calls Try.prog 69 #[.slice A0 cs.length ca0, .slice Q0 qs.length cq0] w (RanQ (cs.map Ak.dat) qs w) := by
  unfold RanQ
  have OP := Lib.hid (fun v (hv : Below w.heap.size w v) => askOpen_any A0 ca0 cs v (h.keep hv))
  obtain ⟨b, o, hA, hc⟩ := hq.at_
  have HC := Lib.hid hc
  have HA := Lib.hid hA
  have H6 := Lib.hid (fun k (hk : k < qs.length) => hq.all _ (Ak.qat_mem hk))
  have HLN := Lib.hid (fun k hk => Ak.ranL_len (cs.map Ak.dat) qs k hk)
  have HSN' := Lib.hid (fun k (hk : k < qs.length) => Ak.ranL_snoc (cs.map Ak.dat) qs hk)
  obtain ⟨LL, hLL⟩ : ∃ LL, Ak.ranL (cs.map Ak.dat) qs = LL := ⟨_, rfl⟩
  rw [hLL]
  have HLL := Lib.hid hLL
  generalize cs.map Ak.dat = D at *
  clear h hq hc hA hLL
  go_enter Try.func69, Try.ntmps69
  go_upto_region 1 with fail
  refine at_worldQ (fun v => Below w.heap.size w v ∧ BK v (w.heap.size) [.slice none 0 0, .slice none 0 0] ∧ v.heap.size = w.heap.size + 1) ⟨(below_al (Below.refl _ _) _), (by have b := (BK.new w [.slice none 0 0, .slice none 0 0] 86); simpa only [World.size_alloc] using b), by simp only [World.size_alloc]⟩ (fun V hS => ?_)
  obtain ⟨hbb, B0, hVs⟩ := hS
  go_wp2_with fail
  refine (OP.out _ hbb).mono ?_
  rintro e w1 ⟨hb, hres⟩
  replace hbb := keepB hbb hb
  have B4 := B0.keep hb
  clear hb OP B0
  have hV1 : w.heap.size + 1 ≤ V.heap.size := by omega
  clear hVs
  rcases hres with ⟨hne, rfl⟩ | ⟨h0, A, ca, l, Q, cq, rfl, hdat, hfd⟩
  · have n1 : (Ak.chkS D 0 != 0) = true := by rw [bne_iff_ne]; exact hne
    have HNE := Lib.hid hne
    clear hne HC HA H6 HLN HSN' HLL
    go_upto_region 2 with fail
    have h47 := B4.lt
    refine at_worldQ (fun v => Below w.heap.size w v ∧ BK v w.heap.size [.slice none 0 0, .slice none 0 0] ∧ BK v w1.heap.size [.slice none 0 0, .slice none 0 0]) ⟨below_al hbb _, B4.al _, BK.new w1 [.slice none 0 0, .slice none 0 0] _⟩ (fun V2 hS => ?_)
    clear hbb B4
    obtain ⟨hbb, B4, BP⟩ := hS
    generalize w1.heap.size = P7 at *
    have p0 := BP.c 0 rfl
    have p1 := BP.c 1 rfl
    have r0 := B4.c 0 rfl
    have r1 := B4.c 1 rfl
    have f0 := B4.f 0 rfl
    have f1 := B4.f 1 rfl
    go_wp2_with fail
    exact bodyPost_ret (v := .tuple #[.agg #[.slice none 0 0, .slice none 0 0], .int .i64 0, .bool false]) (by simp [results, Try.results69, go_sem, r0, r1, p0, p1]) rfl ⟨below_set (below_set hbb (by omega) _) (by omega) _, .inl ⟨HNE.out, rfl⟩⟩
  · have HZ := Lib.hid h0
    have HD := Lib.hid hdat
    clear h0 hdat
    have e0 : ((0 : Int) != 0) = false := rfl
    go_upto_region 2 with fail
    have h47 := B4.lt
    refine at_worldQ (fun v => Below w.heap.size w v ∧ BK v w.heap.size [.slice none 0 0, .slice none 0 0] ∧ BK v w1.heap.size [.slice A l.length ca, .slice Q 0 cq] ∧ FD v (w.heap.size + 1) A ca l Q cq []) ⟨below_al hbb _, B4.al _, BK.new w1 [.slice A l.length ca, .slice Q 0 cq] _, (hfd.keep (below_al (Below.refl _ _) _)).mono (by omega)⟩ (fun V2 hS => ?_)
    clear hbb B4 hfd
    generalize w1.heap.size = P7 at *
    go_wp2_with fail
    go_loopw [9, 10] (fun c i W => ∃ (k : Nat) (A : Option Addr) (ca : Nat) (l : List CkR) (Q : Option Addr) (cq : Nat) (L : List Qr), k ≤ qs.length ∧ i = .int .i64 k ∧ c = .int .i64 L.length ∧ Ak.ranL D (qs.take k) = L ∧ l.map Ak.dat = D ∧ Below w.heap.size w W ∧ BK W w.heap.size [.slice none 0 0, .slice none 0 0] ∧ BK W P7 [.slice A l.length ca, .slice Q L.length cq] ∧ FD W (w.heap.size + 1) A ca l Q cq L) (fun _ i _ => qs.length - (intOf i).toNat)
    case atStart => exact ⟨0, A, ca, l, Q, cq, [], Nat.zero_le _, rfl, rfl, rfl, HD.out, hS⟩
    case round =>
      clear hS HD
      obtain ⟨k, A, ca, l, Q, cq, L, hk, rfl, rfl, hran, hdat, hbb, B4, BP, hfd⟩ := hrel
      have HDD := Lib.hid hdat
      have hLk : L.length ≤ k := by rw [← hran]; exact HLN.out k hk
      have HRAN := Lib.hid hran
      clear hdat hran
      by_cases hlt : k < qs.length
      · have hA' := HA.out (by omega)
        subst hA'
        have hsn := HSN'.out k hlt
        rw [HRAN.out] at hsn
        have hq6 := H6.out k hlt
        obtain ⟨q, hqq⟩ : ∃ q, Ak.qat qs k = q := ⟨_, rfl⟩
        have hcell := HC.out k hlt
        rw [hqq] at hsn hq6 hcell
        obtain ⟨ag, kd, a, b', c, d, x, y⟩ := q
        obtain ⟨c0, c1, c2, c3, c4, c5, c6, c7⟩ := hcell
        dsimp only at c0 c1 c2 c3 c4 c5 c6 c7
        rw [Nat.add_zero] at c0
        obtain ⟨k1, k2, k3, k4, k5, k6, _, _⟩ := hq6
        dsimp only at k1 k2 k3 k4 k5 k6
        have y0 := keepC hbb c0
        have y1 := keepC hbb c1
        have y2 := keepC hbb c2
        have y3 := keepC hbb c3
        have y4 := keepC hbb c4
        have y5 := keepC hbb c5
        have y6 := keepC hbb c6
        have y7 := keepC hbb c7
        have i1 : (0 : Int) ≤ (k : Int) := by omega
        have i2 : (k : Int) < (qs.length : Int) := by omega
        have hrs : Ak.rstep D L ⟨ag, kd, a, b', c, d, x, y⟩ = if Ak.putE D L.length (Ak.asks ⟨ag, kd, a, b', c, d, x, y⟩) = 0 then L ++ [Ak.told D (Ak.asks ⟨ag, kd, a, b', c, d, x, y⟩)] else L := rfl
        rw [hrs] at hsn
        clear hqq hrs
        go_upto_region 8 with fail
        refine at_worldQ (fun v => Below w.heap.size w v ∧ w.heap.size ≤ v.heap.size ∧ BK v w.heap.size [.slice none 0 0, .slice none 0 0] ∧ BK v P7 [.slice A l.length ca, .slice Q L.length cq] ∧ FD v (w.heap.size + 1) A ca l Q cq L ∧ v.cell? ⟨b, o + k * 8, none⟩ = some (.int .i64 ag) ∧ v.cell? ⟨b, o + k * 8 + 1, none⟩ = some (.int .u8 kd) ∧ v.cell? ⟨b, o + k * 8 + 2, none⟩ = some (.int .i64 a) ∧ v.cell? ⟨b, o + k * 8 + 3, none⟩ = some (.int .i64 b') ∧ v.cell? ⟨b, o + k * 8 + 4, none⟩ = some (.int .i64 c) ∧ v.cell? ⟨b, o + k * 8 + 5, none⟩ = some (.int .i64 d) ∧ v.cell? ⟨b, o + k * 8 + 6, none⟩ = some (.int .i64 x) ∧ v.cell? ⟨b, o + k * 8 + 7, none⟩ = some (.int .i64 y)) ⟨hbb, hbb.size, B4, BP, hfd, y0, y1, y2, y3, y4, y5, y6, y7⟩ (fun V8 hS => ?_)
        clear hbb B4 BP hfd y0 y1 y2 y3 y4 y5 y6 y7 c0 c1 c2 c3 c4 c5 c6 c7
        obtain ⟨hbb, hBV, B4, BP, hfd, y0, y1, y2, y3, y4, y5, y6, y7⟩ := hS
        have hP7 := BP.lt
        have hbl := lt_of_cell y0
        have p0 := BP.c 0 rfl
        have p1 := BP.c 1 rfl
        obtain ⟨E1, hE1⟩ : ∃ E1, Ak.putE D L.length ⟨ag, 1, a, b', c, d, 0, 0⟩ = E1 := ⟨_, rfl⟩
        obtain ⟨E2, hE2⟩ : ∃ E2, Ak.putE D L.length ⟨ag, 2, a, b', c, d, 0, 0⟩ = E2 := ⟨_, rfl⟩
        obtain ⟨T1, hT1⟩ : ∃ T1, Ak.told D ⟨ag, 1, a, b', c, d, 0, 0⟩ = T1 := ⟨_, rfl⟩
        obtain ⟨T2', hT2⟩ : ∃ T2, Ak.told D ⟨ag, 2, a, b', c, d, 0, 0⟩ = T2 := ⟨_, rfl⟩
        have HE1 := Lib.hid hE1
        have HE2 := Lib.hid hE2
        have HT1 := Lib.hid hT1
        have HT2 := Lib.hid hT2
        have cvv := fun v (hv : Below V8.heap.size V8 v) => askValue_any A ca l Q L cq ag a b' c d v (hfd.isCs.keep hv) (hfd.isQs.keep hv) k1 k3 k4 k5 k6
        have cmm := fun v (hv : Below V8.heap.size V8 v) => askMark_any A ca l Q L cq ag a b' c d v (hfd.isCs.keep hv) (hfd.isQs.keep hv) k1 k3 k4 k5 k6
        rw [HDD.out] at cvv cmm
        have CV := Lib.hid cvv
        have CM := Lib.hid cmm
        clear cvv cmm
        have HSN := Lib.hid hsn
        clear hsn k1 k3 k4 k5 k6 HC HA H6 HLN HSN' HRAN HLL
        go_cut [11, 12, 13] (fun x y z v => ∃ (p11 p12 : Nat) (A2 : Option Addr) (m2 ca2 : Nat) (Q2 : Option Addr) (n2 cq2 : Nat), x = .pointer (some ⟨p11, 0, none⟩) ∧ y = .pointer (some ⟨p12, 0, none⟩) ∧ z = .int .i64 E1 ∧ V8.heap.size ≤ p11 ∧ BK v p11 [.slice A2 m2 ca2, .slice Q2 n2 cq2] ∧ (E1 = 0 → ∃ l2, m2 = l2.length ∧ n2 = (L ++ [T1]).length ∧ l2.map Ak.dat = D ∧ FD v V8.heap.size A2 ca2 l2 Q2 cq2 (L ++ [T1])) ∧ Below V8.heap.size V8 v)
        case first =>
          as_aux_lemma =>
            clear hT1 hT2 hE1 hE2 HSN
            refine wp_region_held_drew (S := (GB (fun _ => False) V8)) (by kernel_rfl) ((GB.refl _ _).drew) (fun hHeld => ?_)
            refine at_anyH (fun v => GB (fun _ => False) V8 v) hHeld (fun wa0 hNew => ?_)
            clear hHeld
            have hHeld := hNew
            clear hNew
            refine wpAnyH_take (i := 0) (oi := _) (v := ?va1) rfl (by kernel_rfl) (by kernel_rfl) (by kernel_rfl) (fun _ _ _ h => h) (Or.inl ⟨by kernel_rfl, ?hya1⟩) hHeld ?resta1
            case hya1 => (intro w hSw; have kp0 := hSw.cell (fun h => h) p0; have kp1 := hSw.cell (fun h => h) p1; have ky0 := hSw.cell (fun h => h) y0; have ky1 := hSw.cell (fun h => h) y1; have ky2 := hSw.cell (fun h => h) y2; have ky3 := hSw.cell (fun h => h) y3; have ky4 := hSw.cell (fun h => h) y4; have ky5 := hSw.cell (fun h => h) y5; have ky6 := hSw.cell (fun h => h) y6; have ky7 := hSw.cell (fun h => h) y7; go_simp; first | done | (with_reducible rfl))
            try simp only [Act.put, List.getElem_toArray, List.getElem_cons_succ, List.getElem_cons_zero, List.setIfInBounds_toArray, List.set_cons_zero, List.set_cons_succ]
            refine wpAnyH_take (i := 1) (oi := _) (v := ?va2) rfl (by kernel_rfl) (by kernel_rfl) (by kernel_rfl) (fun _ _ _ h => h) (Or.inl ⟨by kernel_rfl, ?hya2⟩) hHeld ?resta2
            case hya2 => (intro w hSw; go_simp; first | done | (with_reducible rfl))
            try simp only [Act.put, List.getElem_toArray, List.getElem_cons_succ, List.getElem_cons_zero, List.setIfInBounds_toArray, List.set_cons_zero, List.set_cons_succ]
            refine wpAnyH_take (i := 2) (oi := _) (v := ?va3) rfl (by kernel_rfl) (by kernel_rfl) (by kernel_rfl) (fun _ _ _ h => h) (Or.inl ⟨by kernel_rfl, ?hya3⟩) hHeld ?resta3
            case hya3 => (intro w hSw; go_simp; first | done | (with_reducible rfl))
            try simp only [Act.put, List.getElem_toArray, List.getElem_cons_succ, List.getElem_cons_zero, List.setIfInBounds_toArray, List.set_cons_zero, List.set_cons_succ]
            refine wpAnyH_take (i := 3) (oi := _) (v := ?va4) rfl (by kernel_rfl) (by kernel_rfl) (by kernel_rfl) (fun _ _ _ h => h) (Or.inl ⟨by kernel_rfl, ?hya4⟩) hHeld ?resta4
            case hya4 => (intro w hSw; go_simp; first | done | (with_reducible rfl))
            try simp only [Act.put, List.getElem_toArray, List.getElem_cons_succ, List.getElem_cons_zero, List.setIfInBounds_toArray, List.set_cons_zero, List.set_cons_succ]
            refine wpAnyH_take (i := 4) (oi := _) (v := ?va5) rfl (by kernel_rfl) (by kernel_rfl) (by kernel_rfl) (fun _ _ _ h => h) (Or.inl ⟨by kernel_rfl, ?hya5⟩) hHeld ?resta5
            case hya5 => (intro w hSw; go_simp; first | done | (with_reducible rfl))
            try simp only [Act.put, List.getElem_toArray, List.getElem_cons_succ, List.getElem_cons_zero, List.setIfInBounds_toArray, List.set_cons_zero, List.set_cons_succ]
            refine wpAnyH_take (i := 5) (oi := _) (v := ?va6) rfl (by kernel_rfl) (by kernel_rfl) (by kernel_rfl) (fun _ _ _ h => h) (Or.inl ⟨by kernel_rfl, ?hya6⟩) hHeld ?resta6
            case hya6 => (intro w hSw; have kp0 := hSw.cell (fun h => h) p0; have kp1 := hSw.cell (fun h => h) p1; have ky0 := hSw.cell (fun h => h) y0; have ky1 := hSw.cell (fun h => h) y1; have ky2 := hSw.cell (fun h => h) y2; have ky3 := hSw.cell (fun h => h) y3; have ky4 := hSw.cell (fun h => h) y4; have ky5 := hSw.cell (fun h => h) y5; have ky6 := hSw.cell (fun h => h) y6; have ky7 := hSw.cell (fun h => h) y7; go_simp; first | done | (with_reducible rfl))
            try simp only [Act.put, List.getElem_toArray, List.getElem_cons_succ, List.getElem_cons_zero, List.setIfInBounds_toArray, List.set_cons_zero, List.set_cons_succ]
            refine wpAnyH_take (i := 6) (oi := _) (v := ?va7) rfl (by kernel_rfl) (by kernel_rfl) (by kernel_rfl) (fun _ _ _ h => h) (Or.inl ⟨by kernel_rfl, ?hya7⟩) hHeld ?resta7
            case hya7 => (intro w hSw; go_simp; first | done | (with_reducible rfl))
            try simp only [Act.put, List.getElem_toArray, List.getElem_cons_succ, List.getElem_cons_zero, List.setIfInBounds_toArray, List.set_cons_zero, List.set_cons_succ]
            refine wpAnyH_take (i := 7) (oi := _) (v := ?va8) rfl (by kernel_rfl) (by kernel_rfl) (by kernel_rfl) (fun _ _ _ h => h) (Or.inl ⟨by kernel_rfl, ?hya8⟩) hHeld ?resta8
            case hya8 => (intro w hSw; go_simp; first | done | (with_reducible rfl))
            try simp only [Act.put, List.getElem_toArray, List.getElem_cons_succ, List.getElem_cons_zero, List.setIfInBounds_toArray, List.set_cons_zero, List.set_cons_succ]
            refine wpAnyH_take (i := 8) (oi := _) (v := ?va9) rfl (by kernel_rfl) (by kernel_rfl) (by kernel_rfl) (fun _ _ _ h => h) (Or.inl ⟨by kernel_rfl, ?hya9⟩) hHeld ?resta9
            case hya9 => (intro w hSw; go_simp; first | done | (with_reducible rfl))
            try simp only [Act.put, List.getElem_toArray, List.getElem_cons_succ, List.getElem_cons_zero, List.setIfInBounds_toArray, List.set_cons_zero, List.set_cons_succ]
            refine wpAnyH_take (i := 9) (oi := _) (v := ?va10) rfl (by kernel_rfl) (by kernel_rfl) (by kernel_rfl) (fun _ _ _ h => h) (Or.inl ⟨by kernel_rfl, ?hya10⟩) hHeld ?resta10
            case hya10 => (intro w hSw; go_simp; first | done | (with_reducible rfl))
            try simp only [Act.put, List.getElem_toArray, List.getElem_cons_succ, List.getElem_cons_zero, List.setIfInBounds_toArray, List.set_cons_zero, List.set_cons_succ]
            refine wpAnyH_take (i := 10) (oi := _) (v := ?va11) rfl (by kernel_rfl) (by kernel_rfl) (by kernel_rfl) (fun _ _ _ h => h) (Or.inl ⟨by kernel_rfl, ?hya11⟩) hHeld ?resta11
            case hya11 => (intro w hSw; have kp0 := hSw.cell (fun h => h) p0; have kp1 := hSw.cell (fun h => h) p1; have ky0 := hSw.cell (fun h => h) y0; have ky1 := hSw.cell (fun h => h) y1; have ky2 := hSw.cell (fun h => h) y2; have ky3 := hSw.cell (fun h => h) y3; have ky4 := hSw.cell (fun h => h) y4; have ky5 := hSw.cell (fun h => h) y5; have ky6 := hSw.cell (fun h => h) y6; have ky7 := hSw.cell (fun h => h) y7; go_simp; first | done | (with_reducible rfl))
            try simp only [Act.put, List.getElem_toArray, List.getElem_cons_succ, List.getElem_cons_zero, List.setIfInBounds_toArray, List.set_cons_zero, List.set_cons_succ]
            refine wpAnyH_take (i := 11) (oi := _) (v := ?va12) rfl (by kernel_rfl) (by kernel_rfl) (by kernel_rfl) (fun _ _ _ h => h) (Or.inl ⟨by kernel_rfl, ?hya12⟩) hHeld ?resta12
            case hya12 => (intro w hSw; go_simp; first | done | (with_reducible rfl))
            try simp only [Act.put, List.getElem_toArray, List.getElem_cons_succ, List.getElem_cons_zero, List.setIfInBounds_toArray, List.set_cons_zero, List.set_cons_succ]
            refine wpAnyH_take (i := 12) (oi := _) (v := ?va13) rfl (by kernel_rfl) (by kernel_rfl) (by kernel_rfl) (fun _ _ _ h => h) (Or.inl ⟨by kernel_rfl, ?hya13⟩) hHeld ?resta13
            case hya13 => (intro w hSw; go_simp; first | done | (with_reducible rfl))
            try simp only [Act.put, List.getElem_toArray, List.getElem_cons_succ, List.getElem_cons_zero, List.setIfInBounds_toArray, List.set_cons_zero, List.set_cons_succ]
            refine wpAnyH_take (i := 13) (oi := _) (v := ?va14) rfl (by kernel_rfl) (by kernel_rfl) (by kernel_rfl) (fun _ _ _ h => h) (Or.inl ⟨by kernel_rfl, ?hya14⟩) hHeld ?resta14
            case hya14 => (intro w hSw; go_simp; first | done | (with_reducible rfl))
            try simp only [Act.put, List.getElem_toArray, List.getElem_cons_succ, List.getElem_cons_zero, List.setIfInBounds_toArray, List.set_cons_zero, List.set_cons_succ]
            refine wpAnyH_take (i := 14) (oi := _) (v := ?va15) rfl (by kernel_rfl) (by kernel_rfl) (by kernel_rfl) (fun _ _ _ h => h) (Or.inl ⟨by kernel_rfl, ?hya15⟩) hHeld ?resta15
            case hya15 => (intro w hSw; go_simp; first | done | (with_reducible rfl))
            try simp only [Act.put, List.getElem_toArray, List.getElem_cons_succ, List.getElem_cons_zero, List.setIfInBounds_toArray, List.set_cons_zero, List.set_cons_succ]
            refine wpAnyH_take (i := 15) (oi := _) (v := ?va16) rfl (by kernel_rfl) (by kernel_rfl) (by kernel_rfl) (fun _ _ _ h => h) (Or.inl ⟨by kernel_rfl, ?hya16⟩) hHeld ?resta16
            case hya16 => (intro w hSw; have kp0 := hSw.cell (fun h => h) p0; have kp1 := hSw.cell (fun h => h) p1; have ky0 := hSw.cell (fun h => h) y0; have ky1 := hSw.cell (fun h => h) y1; have ky2 := hSw.cell (fun h => h) y2; have ky3 := hSw.cell (fun h => h) y3; have ky4 := hSw.cell (fun h => h) y4; have ky5 := hSw.cell (fun h => h) y5; have ky6 := hSw.cell (fun h => h) y6; have ky7 := hSw.cell (fun h => h) y7; go_simp; first | done | (with_reducible rfl))
            try simp only [Act.put, List.getElem_toArray, List.getElem_cons_succ, List.getElem_cons_zero, List.setIfInBounds_toArray, List.set_cons_zero, List.set_cons_succ]
            refine wpAnyH_ready (rs := [16, 21, 22]) (by kernel_rfl) (by simp) (AllReadyH.cons (o := _) rfl (fun K hK => ?_) (AllReadyH.cons (o := _) rfl (fun K hK => ?_) (AllReadyH.cons (o := _) rfl (fun K hK => ?_) AllReadyH.nil)))
            ·
              go_simp
              refine (CV.out _ (hHeld.toBelow (Below.refl _ _) (fun k hk => hk.elim) (Nat.le_refl _))).mono ?_
              rintro e wa17 hput
              obtain ⟨A2, m2, ca2, Q2, n2, cq2, r1, r2, rfl, hb3, hfd2⟩ := hput.one
              rw [HE1.out, HT1.out] at hfd2
              rw [HE1.out]
              have hm := Mid.refl wa0.heap.size wa17
              have hvw := hHeld.size
              go_wp2_with fail
              refine hK.out _ _ (hHeld.below hb3) (fun hNew => ?_)
              clear hb3
              clear hHeld hK K
              have hHeld := hNew
              clear hNew
              try simp only [Act.put, List.getElem_toArray, List.getElem_cons_succ, List.getElem_cons_zero, List.setIfInBounds_toArray, List.set_cons_zero, List.set_cons_succ]
              refine wpAnyH_take (i := 17) (oi := _) (v := ?va18) rfl (by kernel_rfl) (by kernel_rfl) (by kernel_rfl) (fun _ _ _ h => h) (Or.inl ⟨by kernel_rfl, ?hya18⟩) hHeld ?resta18
              case hya18 => (intro w hSw; go_simp; first | done | (with_reducible rfl))
              try simp only [Act.put, List.getElem_toArray, List.getElem_cons_succ, List.getElem_cons_zero, List.setIfInBounds_toArray, List.set_cons_zero, List.set_cons_succ]
              refine wpAnyH_take (i := 18) (oi := _) (v := ?va19) rfl (by kernel_rfl) (by kernel_rfl) (by kernel_rfl) (fun _ _ _ h => h) (Or.inl ⟨by kernel_rfl, ?hya19⟩) hHeld ?resta19
              case hya19 => (intro w hSw; go_simp; first | done | (with_reducible rfl))
              try simp only [Act.put, List.getElem_toArray, List.getElem_cons_succ, List.getElem_cons_zero, List.setIfInBounds_toArray, List.set_cons_zero, List.set_cons_succ]
              refine wpAnyH_take (i := 19) (oi := _) (v := ?va20) rfl (by kernel_rfl) (by kernel_rfl) (by kernel_rfl) (fun _ _ _ h => h) (Or.inl ⟨by kernel_rfl, ?hya20⟩) hHeld ?resta20
              case hya20 => (intro w hSw; go_simp; first | done | (with_reducible rfl))
              try simp only [Act.put, List.getElem_toArray, List.getElem_cons_succ, List.getElem_cons_zero, List.setIfInBounds_toArray, List.set_cons_zero, List.set_cons_succ]
              refine wpAnyH_take (i := 20) (oi := _) (v := ?va21) rfl (by kernel_rfl) (by kernel_rfl) (by kernel_rfl) (fun _ _ _ h => h) (Or.inl ⟨by kernel_rfl, ?hya21⟩) hHeld ?resta21
              case hya21 => (intro w hSw; go_simp; first | done | (with_reducible rfl))
              try simp only [Act.put, List.getElem_toArray, List.getElem_cons_succ, List.getElem_cons_zero, List.setIfInBounds_toArray, List.set_cons_zero, List.set_cons_succ]
              refine wpAnyH_ready (rs := [21, 22]) (by kernel_rfl) (by simp) (AllReadyH.cons (o := _) rfl (fun K hK => ?_) (AllReadyH.cons (o := _) rfl (fun K hK => ?_) AllReadyH.nil))
              ·
                go_simp
                refine hK.out _ _ (hHeld.al _) (fun hNew => ?_)
                have hX : V8.heap.size ≤ wa17.heap.size := hHeld.size
                clear hHeld hK K
                have hHeld := hNew
                clear hNew
                try simp only [Act.put, List.getElem_toArray, List.getElem_cons_succ, List.getElem_cons_zero, List.setIfInBounds_toArray, List.set_cons_zero, List.set_cons_succ]
                have gXhm := hm.size
                refine at_anyH (fun v => GB (fun _ => False) V8 v ∧ BK v (wa17.heap.size) [.slice none 0 0, .slice none 0 0] ∧ Mid wa0.heap.size wa17 v) ⟨hHeld, BK.new _ _ _, hm.al _⟩ (fun wa22 hS => ?_)
                clear hHeld hm
                obtain ⟨hHeld, BX, hm⟩ := hS
                refine wpAnyH_ready (rs := [22]) (by kernel_rfl) (by simp) (AllReadyH.cons (o := _) rfl (fun K hK => ?_) AllReadyH.nil)
                go_simp
                refine hK.out _ _ (hHeld.al _) (fun hNew => ?_)
                have hY : V8.heap.size ≤ wa22.heap.size := hHeld.size
                have dXY := BX.lt
                clear hHeld hK K
                have hHeld := hNew
                clear hNew
                try simp only [Act.put, List.getElem_toArray, List.getElem_cons_succ, List.getElem_cons_zero, List.setIfInBounds_toArray, List.set_cons_zero, List.set_cons_succ]
                have gYhm := hm.size
                refine at_anyH (fun v => GB (fun _ => False) V8 v ∧ BK v (wa17.heap.size) [.slice none 0 0, .slice none 0 0] ∧ BK v (wa22.heap.size) [.int .i64 0, .int .i64 0] ∧ Mid wa0.heap.size wa17 v) ⟨hHeld, BX.al _, BK.new _ _ _, hm.al _⟩ (fun wa23 hS => ?_)
                clear hHeld BX hm
                obtain ⟨hHeld, BX, BY, hm⟩ := hS
                refine wpAnyH_ready (rs := [23]) (by kernel_rfl) (by simp) (AllReadyH.cons (o := _) rfl (fun K hK => ?_) AllReadyH.nil)
                have n0 := BX.c 0 rfl
                have f0 := BX.f 0 rfl
                have n1 := BX.c 1 rfl
                have f1 := BX.f 1 rfl
                go_simp
                clear n0 f0 n1 f1
                refine hK.out _ _ ((hHeld.set (.inr hX) _).set (.inr hX) _) (fun hNew => ?_)
                clear hHeld hK K
                have hHeld := hNew
                clear hNew
                try simp only [Act.put, List.getElem_toArray, List.getElem_cons_succ, List.getElem_cons_zero, List.setIfInBounds_toArray, List.set_cons_zero, List.set_cons_succ]
                refine at_anyH (fun v => GB (fun _ => False) V8 v ∧ BK v (wa17.heap.size) [.slice A2 m2 ca2, .slice Q2 n2 cq2] ∧ BK v (wa22.heap.size) [.int .i64 0, .int .i64 0] ∧ Mid wa0.heap.size wa17 v) ⟨hHeld, ((BX.set 0 _).set 1 _), ((BY.far (by omega) _ _).far (by omega) _ _), ((hm.set (by omega) _).set (by omega) _)⟩ (fun wa24 hS => ?_)
                clear hHeld BX BY hm
                obtain ⟨hHeld, BX, BY, hm⟩ := hS
                refine wpAnyH_ready (rs := [24]) (by kernel_rfl) (by simp) (AllReadyH.cons (o := _) rfl (fun K hK => ?_) AllReadyH.nil)
                have n0 := BY.c 0 rfl
                have f0 := BY.f 0 rfl
                have n1 := BY.c 1 rfl
                have f1 := BY.f 1 rfl
                go_simp
                clear n0 f0 n1 f1
                refine hK.out _ _ ((hHeld.set (.inr hY) _).set (.inr hY) _) (fun hNew => ?_)
                clear hHeld hK K
                have hHeld := hNew
                clear hNew
                try simp only [Act.put, List.getElem_toArray, List.getElem_cons_succ, List.getElem_cons_zero, List.setIfInBounds_toArray, List.set_cons_zero, List.set_cons_succ]
                refine at_anyH (fun v => GB (fun _ => False) V8 v ∧ BK v (wa17.heap.size) [.slice A2 m2 ca2, .slice Q2 n2 cq2] ∧ BK v (wa22.heap.size) [.int .i64 r1, .int .i64 r2] ∧ Mid wa0.heap.size wa17 v) ⟨hHeld, ((BX.far (by omega) _ _).far (by omega) _ _), ((BY.set 0 _).set 1 _), ((hm.set (by omega) _).set (by omega) _)⟩ (fun wa25 hS => ?_)
                clear hHeld BX BY hm
                obtain ⟨hHeld, BX, BY, hm⟩ := hS
                refine wpAnyH_take (i := 25) (oi := _) (v := ?va26) rfl (by kernel_rfl) (by kernel_rfl) (by kernel_rfl) (fun _ _ _ h => h) (Or.inl ⟨by kernel_rfl, ?hya26⟩) hHeld ?resta26
                case hya26 => (intro w hSw; go_simp; first | done | (with_reducible rfl))
                try simp only [Act.put, List.getElem_toArray, List.getElem_cons_succ, List.getElem_cons_zero, List.setIfInBounds_toArray, List.set_cons_zero, List.set_cons_succ]
                refine wpAnyH_done (by kernel_rfl) ?_ _
                go_wp2_with fail
                go_meet
                exact ⟨_, _, A2, m2, ca2, Q2, n2, cq2, rfl, rfl, rfl, hX, BX, fun h0 => (hfd2 h0).elim fun l2 h => ⟨l2, h.1, h.2.1, h.2.2.1, (h.2.2.2.mid hm).mono hvw⟩, hHeld.toBelow (Below.refl _ _) (fun k hk => hk.elim) (Nat.le_refl _)⟩
              ·
                go_simp
                refine hK.out _ _ (hHeld.al _) (fun hNew => ?_)
                have hY : V8.heap.size ≤ wa17.heap.size := hHeld.size
                clear hHeld hK K
                have hHeld := hNew
                clear hNew
                try simp only [Act.put, List.getElem_toArray, List.getElem_cons_succ, List.getElem_cons_zero, List.setIfInBounds_toArray, List.set_cons_zero, List.set_cons_succ]
                have gYhm := hm.size
                refine at_anyH (fun v => GB (fun _ => False) V8 v ∧ BK v (wa17.heap.size) [.int .i64 0, .int .i64 0] ∧ Mid wa0.heap.size wa17 v) ⟨hHeld, BK.new _ _ _, hm.al _⟩ (fun wa27 hS => ?_)
                clear hHeld hm
                obtain ⟨hHeld, BY, hm⟩ := hS
                refine wpAnyH_ready (rs := [21]) (by kernel_rfl) (by simp) (AllReadyH.cons (o := _) rfl (fun K hK => ?_) AllReadyH.nil)
                go_simp
                refine hK.out _ _ (hHeld.al _) (fun hNew => ?_)
                have hX : V8.heap.size ≤ wa27.heap.size := hHeld.size
                have dYX := BY.lt
                clear hHeld hK K
                have hHeld := hNew
                clear hNew
                try simp only [Act.put, List.getElem_toArray, List.getElem_cons_succ, List.getElem_cons_zero, List.setIfInBounds_toArray, List.set_cons_zero, List.set_cons_succ]
                have gXhm := hm.size
                refine at_anyH (fun v => GB (fun _ => False) V8 v ∧ BK v (wa17.heap.size) [.int .i64 0, .int .i64 0] ∧ BK v (wa27.heap.size) [.slice none 0 0, .slice none 0 0] ∧ Mid wa0.heap.size wa17 v) ⟨hHeld, BY.al _, BK.new _ _ _, hm.al _⟩ (fun wa28 hS => ?_)
                clear hHeld BY hm
                obtain ⟨hHeld, BY, BX, hm⟩ := hS
                refine wpAnyH_ready (rs := [23]) (by kernel_rfl) (by simp) (AllReadyH.cons (o := _) rfl (fun K hK => ?_) AllReadyH.nil)
                have n0 := BX.c 0 rfl
                have f0 := BX.f 0 rfl
                have n1 := BX.c 1 rfl
                have f1 := BX.f 1 rfl
                go_simp
                clear n0 f0 n1 f1
                refine hK.out _ _ ((hHeld.set (.inr hX) _).set (.inr hX) _) (fun hNew => ?_)
                clear hHeld hK K
                have hHeld := hNew
                clear hNew
                try simp only [Act.put, List.getElem_toArray, List.getElem_cons_succ, List.getElem_cons_zero, List.setIfInBounds_toArray, List.set_cons_zero, List.set_cons_succ]
                refine at_anyH (fun v => GB (fun _ => False) V8 v ∧ BK v (wa17.heap.size) [.int .i64 0, .int .i64 0] ∧ BK v (wa27.heap.size) [.slice A2 m2 ca2, .slice Q2 n2 cq2] ∧ Mid wa0.heap.size wa17 v) ⟨hHeld, ((BY.far (by omega) _ _).far (by omega) _ _), ((BX.set 0 _).set 1 _), ((hm.set (by omega) _).set (by omega) _)⟩ (fun wa29 hS => ?_)
                clear hHeld BY BX hm
                obtain ⟨hHeld, BY, BX, hm⟩ := hS
                refine wpAnyH_ready (rs := [24]) (by kernel_rfl) (by simp) (AllReadyH.cons (o := _) rfl (fun K hK => ?_) AllReadyH.nil)
                have n0 := BY.c 0 rfl
                have f0 := BY.f 0 rfl
                have n1 := BY.c 1 rfl
                have f1 := BY.f 1 rfl
                go_simp
                clear n0 f0 n1 f1
                refine hK.out _ _ ((hHeld.set (.inr hY) _).set (.inr hY) _) (fun hNew => ?_)
                clear hHeld hK K
                have hHeld := hNew
                clear hNew
                try simp only [Act.put, List.getElem_toArray, List.getElem_cons_succ, List.getElem_cons_zero, List.setIfInBounds_toArray, List.set_cons_zero, List.set_cons_succ]
                refine at_anyH (fun v => GB (fun _ => False) V8 v ∧ BK v (wa17.heap.size) [.int .i64 r1, .int .i64 r2] ∧ BK v (wa27.heap.size) [.slice A2 m2 ca2, .slice Q2 n2 cq2] ∧ Mid wa0.heap.size wa17 v) ⟨hHeld, ((BY.set 0 _).set 1 _), ((BX.far (by omega) _ _).far (by omega) _ _), ((hm.set (by omega) _).set (by omega) _)⟩ (fun wa30 hS => ?_)
                clear hHeld BY BX hm
                obtain ⟨hHeld, BY, BX, hm⟩ := hS
                refine wpAnyH_take (i := 25) (oi := _) (v := ?va31) rfl (by kernel_rfl) (by kernel_rfl) (by kernel_rfl) (fun _ _ _ h => h) (Or.inl ⟨by kernel_rfl, ?hya31⟩) hHeld ?resta31
                case hya31 => (intro w hSw; go_simp; first | done | (with_reducible rfl))
                try simp only [Act.put, List.getElem_toArray, List.getElem_cons_succ, List.getElem_cons_zero, List.setIfInBounds_toArray, List.set_cons_zero, List.set_cons_succ]
                refine wpAnyH_done (by kernel_rfl) ?_ _
                go_wp2_with fail
                go_meet
                exact ⟨_, _, A2, m2, ca2, Q2, n2, cq2, rfl, rfl, rfl, hX, BX, fun h0 => (hfd2 h0).elim fun l2 h => ⟨l2, h.1, h.2.1, h.2.2.1, (h.2.2.2.mid hm).mono hvw⟩, hHeld.toBelow (Below.refl _ _) (fun k hk => hk.elim) (Nat.le_refl _)⟩
            ·
              go_simp
              refine hK.out _ _ (hHeld.al _) (fun hNew => ?_)
              have hX : V8.heap.size ≤ wa0.heap.size := hHeld.size
              clear hHeld hK K
              have hHeld := hNew
              clear hNew
              try simp only [Act.put, List.getElem_toArray, List.getElem_cons_succ, List.getElem_cons_zero, List.setIfInBounds_toArray, List.set_cons_zero, List.set_cons_succ]
              refine at_anyH (fun v => GB (fun _ => False) V8 v ∧ BK v (wa0.heap.size) [.slice none 0 0, .slice none 0 0]) ⟨hHeld, BK.new _ _ _⟩ (fun wa32 hS => ?_)
              clear hHeld
              obtain ⟨hHeld, BX⟩ := hS
              refine wpAnyH_ready (rs := [16, 22]) (by kernel_rfl) (by simp) (AllReadyH.cons (o := _) rfl (fun K hK => ?_) (AllReadyH.cons (o := _) rfl (fun K hK => ?_) AllReadyH.nil))
              ·
                go_simp
                refine (CV.out _ (hHeld.toBelow (Below.refl _ _) (fun k hk => hk.elim) (Nat.le_refl _))).mono ?_
                rintro e wa33 hput
                obtain ⟨A2, m2, ca2, Q2, n2, cq2, r1, r2, rfl, hb3, hfd2⟩ := hput.one
                rw [HE1.out, HT1.out] at hfd2
                rw [HE1.out]
                have hm := Mid.refl wa32.heap.size wa33
                have hvw := hHeld.size
                go_wp2_with fail
                refine hK.out _ _ (hHeld.below hb3) (fun hNew => ?_)
                have cX := BX.lt
                replace BX := BX.keep hb3
                clear hb3
                clear hHeld hK K
                have hHeld := hNew
                clear hNew
                try simp only [Act.put, List.getElem_toArray, List.getElem_cons_succ, List.getElem_cons_zero, List.setIfInBounds_toArray, List.set_cons_zero, List.set_cons_succ]
                refine wpAnyH_take (i := 17) (oi := _) (v := ?va34) rfl (by kernel_rfl) (by kernel_rfl) (by kernel_rfl) (fun _ _ _ h => h) (Or.inl ⟨by kernel_rfl, ?hya34⟩) hHeld ?resta34
                case hya34 => (intro w hSw; go_simp; first | done | (with_reducible rfl))
                try simp only [Act.put, List.getElem_toArray, List.getElem_cons_succ, List.getElem_cons_zero, List.setIfInBounds_toArray, List.set_cons_zero, List.set_cons_succ]
                refine wpAnyH_take (i := 18) (oi := _) (v := ?va35) rfl (by kernel_rfl) (by kernel_rfl) (by kernel_rfl) (fun _ _ _ h => h) (Or.inl ⟨by kernel_rfl, ?hya35⟩) hHeld ?resta35
                case hya35 => (intro w hSw; go_simp; first | done | (with_reducible rfl))
                try simp only [Act.put, List.getElem_toArray, List.getElem_cons_succ, List.getElem_cons_zero, List.setIfInBounds_toArray, List.set_cons_zero, List.set_cons_succ]
                refine wpAnyH_take (i := 19) (oi := _) (v := ?va36) rfl (by kernel_rfl) (by kernel_rfl) (by kernel_rfl) (fun _ _ _ h => h) (Or.inl ⟨by kernel_rfl, ?hya36⟩) hHeld ?resta36
                case hya36 => (intro w hSw; go_simp; first | done | (with_reducible rfl))
                try simp only [Act.put, List.getElem_toArray, List.getElem_cons_succ, List.getElem_cons_zero, List.setIfInBounds_toArray, List.set_cons_zero, List.set_cons_succ]
                refine wpAnyH_take (i := 20) (oi := _) (v := ?va37) rfl (by kernel_rfl) (by kernel_rfl) (by kernel_rfl) (fun _ _ _ h => h) (Or.inl ⟨by kernel_rfl, ?hya37⟩) hHeld ?resta37
                case hya37 => (intro w hSw; go_simp; first | done | (with_reducible rfl))
                try simp only [Act.put, List.getElem_toArray, List.getElem_cons_succ, List.getElem_cons_zero, List.setIfInBounds_toArray, List.set_cons_zero, List.set_cons_succ]
                refine wpAnyH_ready (rs := [22]) (by kernel_rfl) (by simp) (AllReadyH.cons (o := _) rfl (fun K hK => ?_) AllReadyH.nil)
                go_simp
                refine hK.out _ _ (hHeld.al _) (fun hNew => ?_)
                have hY : V8.heap.size ≤ wa33.heap.size := hHeld.size
                have dXY := BX.lt
                clear hHeld hK K
                have hHeld := hNew
                clear hNew
                try simp only [Act.put, List.getElem_toArray, List.getElem_cons_succ, List.getElem_cons_zero, List.setIfInBounds_toArray, List.set_cons_zero, List.set_cons_succ]
                have gYhm := hm.size
                refine at_anyH (fun v => GB (fun _ => False) V8 v ∧ BK v (wa0.heap.size) [.slice none 0 0, .slice none 0 0] ∧ BK v (wa33.heap.size) [.int .i64 0, .int .i64 0] ∧ Mid wa32.heap.size wa33 v) ⟨hHeld, BX.al _, BK.new _ _ _, hm.al _⟩ (fun wa38 hS => ?_)
                clear hHeld BX hm
                obtain ⟨hHeld, BX, BY, hm⟩ := hS
                refine wpAnyH_ready (rs := [23]) (by kernel_rfl) (by simp) (AllReadyH.cons (o := _) rfl (fun K hK => ?_) AllReadyH.nil)
                have n0 := BX.c 0 rfl
                have f0 := BX.f 0 rfl
                have n1 := BX.c 1 rfl
                have f1 := BX.f 1 rfl
                go_simp
                clear n0 f0 n1 f1
                refine hK.out _ _ ((hHeld.set (.inr hX) _).set (.inr hX) _) (fun hNew => ?_)
                clear hHeld hK K
                have hHeld := hNew
                clear hNew
                try simp only [Act.put, List.getElem_toArray, List.getElem_cons_succ, List.getElem_cons_zero, List.setIfInBounds_toArray, List.set_cons_zero, List.set_cons_succ]
                refine at_anyH (fun v => GB (fun _ => False) V8 v ∧ BK v (wa0.heap.size) [.slice A2 m2 ca2, .slice Q2 n2 cq2] ∧ BK v (wa33.heap.size) [.int .i64 0, .int .i64 0] ∧ Mid wa32.heap.size wa33 v) ⟨hHeld, ((BX.set 0 _).set 1 _), ((BY.far (by omega) _ _).far (by omega) _ _), ((hm.set (by omega) _).set (by omega) _)⟩ (fun wa39 hS => ?_)
                clear hHeld BX BY hm
                obtain ⟨hHeld, BX, BY, hm⟩ := hS
                refine wpAnyH_ready (rs := [24]) (by kernel_rfl) (by simp) (AllReadyH.cons (o := _) rfl (fun K hK => ?_) AllReadyH.nil)
                have n0 := BY.c 0 rfl
                have f0 := BY.f 0 rfl
                have n1 := BY.c 1 rfl
                have f1 := BY.f 1 rfl
                go_simp
                clear n0 f0 n1 f1
                refine hK.out _ _ ((hHeld.set (.inr hY) _).set (.inr hY) _) (fun hNew => ?_)
                clear hHeld hK K
                have hHeld := hNew
                clear hNew
                try simp only [Act.put, List.getElem_toArray, List.getElem_cons_succ, List.getElem_cons_zero, List.setIfInBounds_toArray, List.set_cons_zero, List.set_cons_succ]
                refine at_anyH (fun v => GB (fun _ => False) V8 v ∧ BK v (wa0.heap.size) [.slice A2 m2 ca2, .slice Q2 n2 cq2] ∧ BK v (wa33.heap.size) [.int .i64 r1, .int .i64 r2] ∧ Mid wa32.heap.size wa33 v) ⟨hHeld, ((BX.far (by omega) _ _).far (by omega) _ _), ((BY.set 0 _).set 1 _), ((hm.set (by omega) _).set (by omega) _)⟩ (fun wa40 hS => ?_)
                clear hHeld BX BY hm
                obtain ⟨hHeld, BX, BY, hm⟩ := hS
                refine wpAnyH_take (i := 25) (oi := _) (v := ?va41) rfl (by kernel_rfl) (by kernel_rfl) (by kernel_rfl) (fun _ _ _ h => h) (Or.inl ⟨by kernel_rfl, ?hya41⟩) hHeld ?resta41
                case hya41 => (intro w hSw; go_simp; first | done | (with_reducible rfl))
                try simp only [Act.put, List.getElem_toArray, List.getElem_cons_succ, List.getElem_cons_zero, List.setIfInBounds_toArray, List.set_cons_zero, List.set_cons_succ]
                refine wpAnyH_done (by kernel_rfl) ?_ _
                go_wp2_with fail
                go_meet
                exact ⟨_, _, A2, m2, ca2, Q2, n2, cq2, rfl, rfl, rfl, hX, BX, fun h0 => (hfd2 h0).elim fun l2 h => ⟨l2, h.1, h.2.1, h.2.2.1, (h.2.2.2.mid hm).mono hvw⟩, hHeld.toBelow (Below.refl _ _) (fun k hk => hk.elim) (Nat.le_refl _)⟩
              ·
                go_simp
                refine hK.out _ _ (hHeld.al _) (fun hNew => ?_)
                have hY : V8.heap.size ≤ wa32.heap.size := hHeld.size
                have dXY := BX.lt
                clear hHeld hK K
                have hHeld := hNew
                clear hNew
                try simp only [Act.put, List.getElem_toArray, List.getElem_cons_succ, List.getElem_cons_zero, List.setIfInBounds_toArray, List.set_cons_zero, List.set_cons_succ]
                refine at_anyH (fun v => GB (fun _ => False) V8 v ∧ BK v (wa0.heap.size) [.slice none 0 0, .slice none 0 0] ∧ BK v (wa32.heap.size) [.int .i64 0, .int .i64 0]) ⟨hHeld, BX.al _, BK.new _ _ _⟩ (fun wa42 hS => ?_)
                clear hHeld BX
                obtain ⟨hHeld, BX, BY⟩ := hS
                refine wpAnyH_ready (rs := [16]) (by kernel_rfl) (by simp) (AllReadyH.cons (o := _) rfl (fun K hK => ?_) AllReadyH.nil)
                go_simp
                refine (CV.out _ (hHeld.toBelow (Below.refl _ _) (fun k hk => hk.elim) (Nat.le_refl _))).mono ?_
                rintro e wa43 hput
                obtain ⟨A2, m2, ca2, Q2, n2, cq2, r1, r2, rfl, hb3, hfd2⟩ := hput.one
                rw [HE1.out, HT1.out] at hfd2
                rw [HE1.out]
                have hm := Mid.refl wa42.heap.size wa43
                have hvw := hHeld.size
                go_wp2_with fail
                refine hK.out _ _ (hHeld.below hb3) (fun hNew => ?_)
                have cX := BX.lt
                replace BX := BX.keep hb3
                have cY := BY.lt
                replace BY := BY.keep hb3
                clear hb3
                clear hHeld hK K
                have hHeld := hNew
                clear hNew
                try simp only [Act.put, List.getElem_toArray, List.getElem_cons_succ, List.getElem_cons_zero, List.setIfInBounds_toArray, List.set_cons_zero, List.set_cons_succ]
                refine wpAnyH_take (i := 17) (oi := _) (v := ?va44) rfl (by kernel_rfl) (by kernel_rfl) (by kernel_rfl) (fun _ _ _ h => h) (Or.inl ⟨by kernel_rfl, ?hya44⟩) hHeld ?resta44
                case hya44 => (intro w hSw; go_simp; first | done | (with_reducible rfl))
                try simp only [Act.put, List.getElem_toArray, List.getElem_cons_succ, List.getElem_cons_zero, List.setIfInBounds_toArray, List.set_cons_zero, List.set_cons_succ]
                refine wpAnyH_take (i := 18) (oi := _) (v := ?va45) rfl (by kernel_rfl) (by kernel_rfl) (by kernel_rfl) (fun _ _ _ h => h) (Or.inl ⟨by kernel_rfl, ?hya45⟩) hHeld ?resta45
                case hya45 => (intro w hSw; go_simp; first | done | (with_reducible rfl))
                try simp only [Act.put, List.getElem_toArray, List.getElem_cons_succ, List.getElem_cons_zero, List.setIfInBounds_toArray, List.set_cons_zero, List.set_cons_succ]
                refine wpAnyH_take (i := 19) (oi := _) (v := ?va46) rfl (by kernel_rfl) (by kernel_rfl) (by kernel_rfl) (fun _ _ _ h => h) (Or.inl ⟨by kernel_rfl, ?hya46⟩) hHeld ?resta46
                case hya46 => (intro w hSw; go_simp; first | done | (with_reducible rfl))
                try simp only [Act.put, List.getElem_toArray, List.getElem_cons_succ, List.getElem_cons_zero, List.setIfInBounds_toArray, List.set_cons_zero, List.set_cons_succ]
                refine wpAnyH_take (i := 20) (oi := _) (v := ?va47) rfl (by kernel_rfl) (by kernel_rfl) (by kernel_rfl) (fun _ _ _ h => h) (Or.inl ⟨by kernel_rfl, ?hya47⟩) hHeld ?resta47
                case hya47 => (intro w hSw; go_simp; first | done | (with_reducible rfl))
                try simp only [Act.put, List.getElem_toArray, List.getElem_cons_succ, List.getElem_cons_zero, List.setIfInBounds_toArray, List.set_cons_zero, List.set_cons_succ]
                refine wpAnyH_ready (rs := [23]) (by kernel_rfl) (by simp) (AllReadyH.cons (o := _) rfl (fun K hK => ?_) AllReadyH.nil)
                have n0 := BX.c 0 rfl
                have f0 := BX.f 0 rfl
                have n1 := BX.c 1 rfl
                have f1 := BX.f 1 rfl
                go_simp
                clear n0 f0 n1 f1
                refine hK.out _ _ ((hHeld.set (.inr hX) _).set (.inr hX) _) (fun hNew => ?_)
                clear hHeld hK K
                have hHeld := hNew
                clear hNew
                try simp only [Act.put, List.getElem_toArray, List.getElem_cons_succ, List.getElem_cons_zero, List.setIfInBounds_toArray, List.set_cons_zero, List.set_cons_succ]
                refine at_anyH (fun v => GB (fun _ => False) V8 v ∧ BK v (wa0.heap.size) [.slice A2 m2 ca2, .slice Q2 n2 cq2] ∧ BK v (wa32.heap.size) [.int .i64 0, .int .i64 0] ∧ Mid wa42.heap.size wa43 v) ⟨hHeld, ((BX.set 0 _).set 1 _), ((BY.far (by omega) _ _).far (by omega) _ _), ((hm.set (by omega) _).set (by omega) _)⟩ (fun wa48 hS => ?_)
                clear hHeld BX BY hm
                obtain ⟨hHeld, BX, BY, hm⟩ := hS
                refine wpAnyH_ready (rs := [24]) (by kernel_rfl) (by simp) (AllReadyH.cons (o := _) rfl (fun K hK => ?_) AllReadyH.nil)
                have n0 := BY.c 0 rfl
                have f0 := BY.f 0 rfl
                have n1 := BY.c 1 rfl
                have f1 := BY.f 1 rfl
                go_simp
                clear n0 f0 n1 f1
                refine hK.out _ _ ((hHeld.set (.inr hY) _).set (.inr hY) _) (fun hNew => ?_)
                clear hHeld hK K
                have hHeld := hNew
                clear hNew
                try simp only [Act.put, List.getElem_toArray, List.getElem_cons_succ, List.getElem_cons_zero, List.setIfInBounds_toArray, List.set_cons_zero, List.set_cons_succ]
                refine at_anyH (fun v => GB (fun _ => False) V8 v ∧ BK v (wa0.heap.size) [.slice A2 m2 ca2, .slice Q2 n2 cq2] ∧ BK v (wa32.heap.size) [.int .i64 r1, .int .i64 r2] ∧ Mid wa42.heap.size wa43 v) ⟨hHeld, ((BX.far (by omega) _ _).far (by omega) _ _), ((BY.set 0 _).set 1 _), ((hm.set (by omega) _).set (by omega) _)⟩ (fun wa49 hS => ?_)
                clear hHeld BX BY hm
                obtain ⟨hHeld, BX, BY, hm⟩ := hS
                refine wpAnyH_take (i := 25) (oi := _) (v := ?va50) rfl (by kernel_rfl) (by kernel_rfl) (by kernel_rfl) (fun _ _ _ h => h) (Or.inl ⟨by kernel_rfl, ?hya50⟩) hHeld ?resta50
                case hya50 => (intro w hSw; go_simp; first | done | (with_reducible rfl))
                try simp only [Act.put, List.getElem_toArray, List.getElem_cons_succ, List.getElem_cons_zero, List.setIfInBounds_toArray, List.set_cons_zero, List.set_cons_succ]
                refine wpAnyH_done (by kernel_rfl) ?_ _
                go_wp2_with fail
                go_meet
                exact ⟨_, _, A2, m2, ca2, Q2, n2, cq2, rfl, rfl, rfl, hX, BX, fun h0 => (hfd2 h0).elim fun l2 h => ⟨l2, h.1, h.2.1, h.2.2.1, (h.2.2.2.mid hm).mono hvw⟩, hHeld.toBelow (Below.refl _ _) (fun k hk => hk.elim) (Nat.le_refl _)⟩
            ·
              go_simp
              refine hK.out _ _ (hHeld.al _) (fun hNew => ?_)
              have hY : V8.heap.size ≤ wa0.heap.size := hHeld.size
              clear hHeld hK K
              have hHeld := hNew
              clear hNew
              try simp only [Act.put, List.getElem_toArray, List.getElem_cons_succ, List.getElem_cons_zero, List.setIfInBounds_toArray, List.set_cons_zero, List.set_cons_succ]
              refine at_anyH (fun v => GB (fun _ => False) V8 v ∧ BK v (wa0.heap.size) [.int .i64 0, .int .i64 0]) ⟨hHeld, BK.new _ _ _⟩ (fun wa51 hS => ?_)
              clear hHeld
              obtain ⟨hHeld, BY⟩ := hS
              refine wpAnyH_ready (rs := [16, 21]) (by kernel_rfl) (by simp) (AllReadyH.cons (o := _) rfl (fun K hK => ?_) (AllReadyH.cons (o := _) rfl (fun K hK => ?_) AllReadyH.nil))
              ·
                go_simp
                refine (CV.out _ (hHeld.toBelow (Below.refl _ _) (fun k hk => hk.elim) (Nat.le_refl _))).mono ?_
                rintro e wa52 hput
                obtain ⟨A2, m2, ca2, Q2, n2, cq2, r1, r2, rfl, hb3, hfd2⟩ := hput.one
                rw [HE1.out, HT1.out] at hfd2
                rw [HE1.out]
                have hm := Mid.refl wa51.heap.size wa52
                have hvw := hHeld.size
                go_wp2_with fail
                refine hK.out _ _ (hHeld.below hb3) (fun hNew => ?_)
                have cY := BY.lt
                replace BY := BY.keep hb3
                clear hb3
                clear hHeld hK K
                have hHeld := hNew
                clear hNew
                try simp only [Act.put, List.getElem_toArray, List.getElem_cons_succ, List.getElem_cons_zero, List.setIfInBounds_toArray, List.set_cons_zero, List.set_cons_succ]
                refine wpAnyH_take (i := 17) (oi := _) (v := ?va53) rfl (by kernel_rfl) (by kernel_rfl) (by kernel_rfl) (fun _ _ _ h => h) (Or.inl ⟨by kernel_rfl, ?hya53⟩) hHeld ?resta53
                case hya53 => (intro w hSw; go_simp; first | done | (with_reducible rfl))
                try simp only [Act.put, List.getElem_toArray, List.getElem_cons_succ, List.getElem_cons_zero, List.setIfInBounds_toArray, List.set_cons_zero, List.set_cons_succ]
                refine wpAnyH_take (i := 18) (oi := _) (v := ?va54) rfl (by kernel_rfl) (by kernel_rfl) (by kernel_rfl) (fun _ _ _ h => h) (Or.inl ⟨by kernel_rfl, ?hya54⟩) hHeld ?resta54
                case hya54 => (intro w hSw; go_simp; first | done | (with_reducible rfl))
                try simp only [Act.put, List.getElem_toArray, List.getElem_cons_succ, List.getElem_cons_zero, List.setIfInBounds_toArray, List.set_cons_zero, List.set_cons_succ]
                refine wpAnyH_take (i := 19) (oi := _) (v := ?va55) rfl (by kernel_rfl) (by kernel_rfl) (by kernel_rfl) (fun _ _ _ h => h) (Or.inl ⟨by kernel_rfl, ?hya55⟩) hHeld ?resta55
                case hya55 => (intro w hSw; go_simp; first | done | (with_reducible rfl))
                try simp only [Act.put, List.getElem_toArray, List.getElem_cons_succ, List.getElem_cons_zero, List.setIfInBounds_toArray, List.set_cons_zero, List.set_cons_succ]
                refine wpAnyH_take (i := 20) (oi := _) (v := ?va56) rfl (by kernel_rfl) (by kernel_rfl) (by kernel_rfl) (fun _ _ _ h => h) (Or.inl ⟨by kernel_rfl, ?hya56⟩) hHeld ?resta56
                case hya56 => (intro w hSw; go_simp; first | done | (with_reducible rfl))
                try simp only [Act.put, List.getElem_toArray, List.getElem_cons_succ, List.getElem_cons_zero, List.setIfInBounds_toArray, List.set_cons_zero, List.set_cons_succ]
                refine wpAnyH_ready (rs := [21]) (by kernel_rfl) (by simp) (AllReadyH.cons (o := _) rfl (fun K hK => ?_) AllReadyH.nil)
                go_simp
                refine hK.out _ _ (hHeld.al _) (fun hNew => ?_)
                have hX : V8.heap.size ≤ wa52.heap.size := hHeld.size
                have dYX := BY.lt
                clear hHeld hK K
                have hHeld := hNew
                clear hNew
                try simp only [Act.put, List.getElem_toArray, List.getElem_cons_succ, List.getElem_cons_zero, List.setIfInBounds_toArray, List.set_cons_zero, List.set_cons_succ]
                have gXhm := hm.size
                refine at_anyH (fun v => GB (fun _ => False) V8 v ∧ BK v (wa0.heap.size) [.int .i64 0, .int .i64 0] ∧ BK v (wa52.heap.size) [.slice none 0 0, .slice none 0 0] ∧ Mid wa51.heap.size wa52 v) ⟨hHeld, BY.al _, BK.new _ _ _, hm.al _⟩ (fun wa57 hS => ?_)
                clear hHeld BY hm
                obtain ⟨hHeld, BY, BX, hm⟩ := hS
                refine wpAnyH_ready (rs := [23]) (by kernel_rfl) (by simp) (AllReadyH.cons (o := _) rfl (fun K hK => ?_) AllReadyH.nil)
                have n0 := BX.c 0 rfl
                have f0 := BX.f 0 rfl
                have n1 := BX.c 1 rfl
                have f1 := BX.f 1 rfl
                go_simp
                clear n0 f0 n1 f1
                refine hK.out _ _ ((hHeld.set (.inr hX) _).set (.inr hX) _) (fun hNew => ?_)
                clear hHeld hK K
                have hHeld := hNew
                clear hNew
                try simp only [Act.put, List.getElem_toArray, List.getElem_cons_succ, List.getElem_cons_zero, List.setIfInBounds_toArray, List.set_cons_zero, List.set_cons_succ]
                refine at_anyH (fun v => GB (fun _ => False) V8 v ∧ BK v (wa0.heap.size) [.int .i64 0, .int .i64 0] ∧ BK v (wa52.heap.size) [.slice A2 m2 ca2, .slice Q2 n2 cq2] ∧ Mid wa51.heap.size wa52 v) ⟨hHeld, ((BY.far (by omega) _ _).far (by omega) _ _), ((BX.set 0 _).set 1 _), ((hm.set (by omega) _).set (by omega) _)⟩ (fun wa58 hS => ?_)
                clear hHeld BY BX hm
                obtain ⟨hHeld, BY, BX, hm⟩ := hS
                refine wpAnyH_ready (rs := [24]) (by kernel_rfl) (by simp) (AllReadyH.cons (o := _) rfl (fun K hK => ?_) AllReadyH.nil)
                have n0 := BY.c 0 rfl
                have f0 := BY.f 0 rfl
                have n1 := BY.c 1 rfl
                have f1 := BY.f 1 rfl
                go_simp
                clear n0 f0 n1 f1
                refine hK.out _ _ ((hHeld.set (.inr hY) _).set (.inr hY) _) (fun hNew => ?_)
                clear hHeld hK K
                have hHeld := hNew
                clear hNew
                try simp only [Act.put, List.getElem_toArray, List.getElem_cons_succ, List.getElem_cons_zero, List.setIfInBounds_toArray, List.set_cons_zero, List.set_cons_succ]
                refine at_anyH (fun v => GB (fun _ => False) V8 v ∧ BK v (wa0.heap.size) [.int .i64 r1, .int .i64 r2] ∧ BK v (wa52.heap.size) [.slice A2 m2 ca2, .slice Q2 n2 cq2] ∧ Mid wa51.heap.size wa52 v) ⟨hHeld, ((BY.set 0 _).set 1 _), ((BX.far (by omega) _ _).far (by omega) _ _), ((hm.set (by omega) _).set (by omega) _)⟩ (fun wa59 hS => ?_)
                clear hHeld BY BX hm
                obtain ⟨hHeld, BY, BX, hm⟩ := hS
                refine wpAnyH_take (i := 25) (oi := _) (v := ?va60) rfl (by kernel_rfl) (by kernel_rfl) (by kernel_rfl) (fun _ _ _ h => h) (Or.inl ⟨by kernel_rfl, ?hya60⟩) hHeld ?resta60
                case hya60 => (intro w hSw; go_simp; first | done | (with_reducible rfl))
                try simp only [Act.put, List.getElem_toArray, List.getElem_cons_succ, List.getElem_cons_zero, List.setIfInBounds_toArray, List.set_cons_zero, List.set_cons_succ]
                refine wpAnyH_done (by kernel_rfl) ?_ _
                go_wp2_with fail
                go_meet
                exact ⟨_, _, A2, m2, ca2, Q2, n2, cq2, rfl, rfl, rfl, hX, BX, fun h0 => (hfd2 h0).elim fun l2 h => ⟨l2, h.1, h.2.1, h.2.2.1, (h.2.2.2.mid hm).mono hvw⟩, hHeld.toBelow (Below.refl _ _) (fun k hk => hk.elim) (Nat.le_refl _)⟩
              ·
                go_simp
                refine hK.out _ _ (hHeld.al _) (fun hNew => ?_)
                have hX : V8.heap.size ≤ wa51.heap.size := hHeld.size
                have dYX := BY.lt
                clear hHeld hK K
                have hHeld := hNew
                clear hNew
                try simp only [Act.put, List.getElem_toArray, List.getElem_cons_succ, List.getElem_cons_zero, List.setIfInBounds_toArray, List.set_cons_zero, List.set_cons_succ]
                refine at_anyH (fun v => GB (fun _ => False) V8 v ∧ BK v (wa0.heap.size) [.int .i64 0, .int .i64 0] ∧ BK v (wa51.heap.size) [.slice none 0 0, .slice none 0 0]) ⟨hHeld, BY.al _, BK.new _ _ _⟩ (fun wa61 hS => ?_)
                clear hHeld BY
                obtain ⟨hHeld, BY, BX⟩ := hS
                refine wpAnyH_ready (rs := [16]) (by kernel_rfl) (by simp) (AllReadyH.cons (o := _) rfl (fun K hK => ?_) AllReadyH.nil)
                go_simp
                refine (CV.out _ (hHeld.toBelow (Below.refl _ _) (fun k hk => hk.elim) (Nat.le_refl _))).mono ?_
                rintro e wa62 hput
                obtain ⟨A2, m2, ca2, Q2, n2, cq2, r1, r2, rfl, hb3, hfd2⟩ := hput.one
                rw [HE1.out, HT1.out] at hfd2
                rw [HE1.out]
                have hm := Mid.refl wa61.heap.size wa62
                have hvw := hHeld.size
                go_wp2_with fail
                refine hK.out _ _ (hHeld.below hb3) (fun hNew => ?_)
                have cY := BY.lt
                replace BY := BY.keep hb3
                have cX := BX.lt
                replace BX := BX.keep hb3
                clear hb3
                clear hHeld hK K
                have hHeld := hNew
                clear hNew
                try simp only [Act.put, List.getElem_toArray, List.getElem_cons_succ, List.getElem_cons_zero, List.setIfInBounds_toArray, List.set_cons_zero, List.set_cons_succ]
                refine wpAnyH_take (i := 17) (oi := _) (v := ?va63) rfl (by kernel_rfl) (by kernel_rfl) (by kernel_rfl) (fun _ _ _ h => h) (Or.inl ⟨by kernel_rfl, ?hya63⟩) hHeld ?resta63
                case hya63 => (intro w hSw; go_simp; first | done | (with_reducible rfl))
                try simp only [Act.put, List.getElem_toArray, List.getElem_cons_succ, List.getElem_cons_zero, List.setIfInBounds_toArray, List.set_cons_zero, List.set_cons_succ]
                refine wpAnyH_take (i := 18) (oi := _) (v := ?va64) rfl (by kernel_rfl) (by kernel_rfl) (by kernel_rfl) (fun _ _ _ h => h) (Or.inl ⟨by kernel_rfl, ?hya64⟩) hHeld ?resta64
                case hya64 => (intro w hSw; go_simp; first | done | (with_reducible rfl))
                try simp only [Act.put, List.getElem_toArray, List.getElem_cons_succ, List.getElem_cons_zero, List.setIfInBounds_toArray, List.set_cons_zero, List.set_cons_succ]
                refine wpAnyH_take (i := 19) (oi := _) (v := ?va65) rfl (by kernel_rfl) (by kernel_rfl) (by kernel_rfl) (fun _ _ _ h => h) (Or.inl ⟨by kernel_rfl, ?hya65⟩) hHeld ?resta65
                case hya65 => (intro w hSw; go_simp; first | done | (with_reducible rfl))
                try simp only [Act.put, List.getElem_toArray, List.getElem_cons_succ, List.getElem_cons_zero, List.setIfInBounds_toArray, List.set_cons_zero, List.set_cons_succ]
                refine wpAnyH_take (i := 20) (oi := _) (v := ?va66) rfl (by kernel_rfl) (by kernel_rfl) (by kernel_rfl) (fun _ _ _ h => h) (Or.inl ⟨by kernel_rfl, ?hya66⟩) hHeld ?resta66
                case hya66 => (intro w hSw; go_simp; first | done | (with_reducible rfl))
                try simp only [Act.put, List.getElem_toArray, List.getElem_cons_succ, List.getElem_cons_zero, List.setIfInBounds_toArray, List.set_cons_zero, List.set_cons_succ]
                refine wpAnyH_ready (rs := [23]) (by kernel_rfl) (by simp) (AllReadyH.cons (o := _) rfl (fun K hK => ?_) AllReadyH.nil)
                have n0 := BX.c 0 rfl
                have f0 := BX.f 0 rfl
                have n1 := BX.c 1 rfl
                have f1 := BX.f 1 rfl
                go_simp
                clear n0 f0 n1 f1
                refine hK.out _ _ ((hHeld.set (.inr hX) _).set (.inr hX) _) (fun hNew => ?_)
                clear hHeld hK K
                have hHeld := hNew
                clear hNew
                try simp only [Act.put, List.getElem_toArray, List.getElem_cons_succ, List.getElem_cons_zero, List.setIfInBounds_toArray, List.set_cons_zero, List.set_cons_succ]
                refine at_anyH (fun v => GB (fun _ => False) V8 v ∧ BK v (wa0.heap.size) [.int .i64 0, .int .i64 0] ∧ BK v (wa51.heap.size) [.slice A2 m2 ca2, .slice Q2 n2 cq2] ∧ Mid wa61.heap.size wa62 v) ⟨hHeld, ((BY.far (by omega) _ _).far (by omega) _ _), ((BX.set 0 _).set 1 _), ((hm.set (by omega) _).set (by omega) _)⟩ (fun wa67 hS => ?_)
                clear hHeld BY BX hm
                obtain ⟨hHeld, BY, BX, hm⟩ := hS
                refine wpAnyH_ready (rs := [24]) (by kernel_rfl) (by simp) (AllReadyH.cons (o := _) rfl (fun K hK => ?_) AllReadyH.nil)
                have n0 := BY.c 0 rfl
                have f0 := BY.f 0 rfl
                have n1 := BY.c 1 rfl
                have f1 := BY.f 1 rfl
                go_simp
                clear n0 f0 n1 f1
                refine hK.out _ _ ((hHeld.set (.inr hY) _).set (.inr hY) _) (fun hNew => ?_)
                clear hHeld hK K
                have hHeld := hNew
                clear hNew
                try simp only [Act.put, List.getElem_toArray, List.getElem_cons_succ, List.getElem_cons_zero, List.setIfInBounds_toArray, List.set_cons_zero, List.set_cons_succ]
                refine at_anyH (fun v => GB (fun _ => False) V8 v ∧ BK v (wa0.heap.size) [.int .i64 r1, .int .i64 r2] ∧ BK v (wa51.heap.size) [.slice A2 m2 ca2, .slice Q2 n2 cq2] ∧ Mid wa61.heap.size wa62 v) ⟨hHeld, ((BY.set 0 _).set 1 _), ((BX.far (by omega) _ _).far (by omega) _ _), ((hm.set (by omega) _).set (by omega) _)⟩ (fun wa68 hS => ?_)
                clear hHeld BY BX hm
                obtain ⟨hHeld, BY, BX, hm⟩ := hS
                refine wpAnyH_take (i := 25) (oi := _) (v := ?va69) rfl (by kernel_rfl) (by kernel_rfl) (by kernel_rfl) (fun _ _ _ h => h) (Or.inl ⟨by kernel_rfl, ?hya69⟩) hHeld ?resta69
                case hya69 => (intro w hSw; go_simp; first | done | (with_reducible rfl))
                try simp only [Act.put, List.getElem_toArray, List.getElem_cons_succ, List.getElem_cons_zero, List.setIfInBounds_toArray, List.set_cons_zero, List.set_cons_succ]
                refine wpAnyH_done (by kernel_rfl) ?_ _
                go_wp2_with fail
                go_meet
                exact ⟨_, _, A2, m2, ca2, Q2, n2, cq2, rfl, rfl, rfl, hX, BX, fun h0 => (hfd2 h0).elim fun l2 h => ⟨l2, h.1, h.2.1, h.2.2.1, (h.2.2.2.mid hm).mono hvw⟩, hHeld.toBelow (Below.refl _ _) (fun k hk => hk.elim) (Nat.le_refl _)⟩
        case rest =>
          obtain ⟨p11, p12, A2, m2, ca2, Q2, n2, cq2, rfl, rfl, rfl, hp11, BX, hf2, h8⟩ := hcut
          by_cases hk2 : kd = 2
          · subst hk2
            have HY2 := Lib.hid (show (E2 = 0 → (if Ak.putE D L.length (Ak.asks ⟨ag, 2, a, b', c, d, x, y⟩) = 0 then L ++ [Ak.told D (Ak.asks ⟨ag, 2, a, b', c, d, x, y⟩)] else L) = L ++ [T2']) ∧ (¬ E2 = 0 → (if Ak.putE D L.length (Ak.asks ⟨ag, 2, a, b', c, d, x, y⟩) = 0 then L ++ [Ak.told D (Ak.asks ⟨ag, 2, a, b', c, d, x, y⟩)] else L) = L) by
              have ea : Ak.asks ⟨ag, 2, a, b', c, d, x, y⟩ = ⟨ag, 2, a, b', c, d, 0, 0⟩ := rfl
              rw [ea, hE2, hT2]
              exact ⟨fun e => by rw [if_pos e], fun e => by rw [if_neg e]⟩)
            clear hf2 CV HE1 hE1 hT1 hE2 hT2
            replace y0 := keepC h8 y0
            replace y1 := keepC h8 y1
            replace y2 := keepC h8 y2
            replace y3 := keepC h8 y3
            replace y4 := keepC h8 y4
            replace y5 := keepC h8 y5
            replace y6 := keepC h8 y6
            replace y7 := keepC h8 y7
            replace p0 := keepC h8 p0
            replace p1 := keepC h8 p1
            go_upto_region 10 with fail
            refine at_worldQ (fun v => Below V8.heap.size V8 v ∧ BK v p11 [.slice A2 m2 ca2, .slice Q2 n2 cq2] ∧ v.cell? ⟨b, o + k * 8, none⟩ = some (.int .i64 ag) ∧ v.cell? ⟨b, o + k * 8 + 1, none⟩ = some (.int .u8 2) ∧ v.cell? ⟨b, o + k * 8 + 2, none⟩ = some (.int .i64 a) ∧ v.cell? ⟨b, o + k * 8 + 3, none⟩ = some (.int .i64 b') ∧ v.cell? ⟨b, o + k * 8 + 4, none⟩ = some (.int .i64 c) ∧ v.cell? ⟨b, o + k * 8 + 5, none⟩ = some (.int .i64 d) ∧ v.cell? ⟨b, o + k * 8 + 6, none⟩ = some (.int .i64 x) ∧ v.cell? ⟨b, o + k * 8 + 7, none⟩ = some (.int .i64 y) ∧ v.cell? ⟨P7, 0, none⟩ = some (.slice A l.length ca) ∧ v.cell? ⟨P7, 1, none⟩ = some (.slice Q L.length cq)) ⟨h8, BX, y0, y1, y2, y3, y4, y5, y6, y7, p0, p1⟩ (fun V10 hS => ?_)
            clear h8 BX y0 y1 y2 y3 y4 y5 y6 y7 p0 p1
            obtain ⟨h8, BX, y0, y1, y2, y3, y4, y5, y6, y7, p0, p1⟩ := hS
            have hny0 : ¬ b = p11 := by omega
            have hny1 : ¬ b = p11 := by omega
            have hny2 : ¬ b = p11 := by omega
            have hny3 : ¬ b = p11 := by omega
            have hny4 : ¬ b = p11 := by omega
            have hny5 : ¬ b = p11 := by omega
            have hny6 : ¬ b = p11 := by omega
            have hny7 : ¬ b = p11 := by omega
            have hnp0 : ¬ P7 = p11 := by omega
            have hnp1 : ¬ P7 = p11 := by omega
            refine wp_region_noPanic ?_
            refine wp_region_held_drew (S := (GB (fun k => k = p11) V10)) (by kernel_rfl) ((GB.refl _ _).drew) (fun hHeld => ?_)
            refine at_anyH (fun v => GB (fun k => k = p11) V10 v ∧ BK v (p11) [.slice A2 m2 ca2, .slice Q2 n2 cq2]) ⟨hHeld, BX.drew⟩ (fun wb0 hNew => ?_)
            clear hHeld BX
            obtain ⟨hHeld, BX⟩ := hNew
            refine wpAnyH_take (i := 0) (oi := _) (v := ?vb1) rfl (by kernel_rfl) (by kernel_rfl) (by kernel_rfl) (fun _ _ _ h => h) (Or.inl ⟨by kernel_rfl, ?hyb1⟩) hHeld ?restb1
            case hyb1 => (intro w hSw; have kp0 := hSw.cell hnp0 p0; have kp1 := hSw.cell hnp1 p1; have ky0 := hSw.cell hny0 y0; have ky1 := hSw.cell hny1 y1; have ky2 := hSw.cell hny2 y2; have ky3 := hSw.cell hny3 y3; have ky4 := hSw.cell hny4 y4; have ky5 := hSw.cell hny5 y5; have ky6 := hSw.cell hny6 y6; have ky7 := hSw.cell hny7 y7; go_simp; first | done | (with_reducible rfl))
            try simp only [Act.put, List.getElem_toArray, List.getElem_cons_succ, List.getElem_cons_zero, List.setIfInBounds_toArray, List.set_cons_zero, List.set_cons_succ]
            refine wpAnyH_take (i := 1) (oi := _) (v := ?vb2) rfl (by kernel_rfl) (by kernel_rfl) (by kernel_rfl) (fun _ _ _ h => h) (Or.inl ⟨by kernel_rfl, ?hyb2⟩) hHeld ?restb2
            case hyb2 => (intro w hSw; go_simp; first | done | (with_reducible rfl))
            try simp only [Act.put, List.getElem_toArray, List.getElem_cons_succ, List.getElem_cons_zero, List.setIfInBounds_toArray, List.set_cons_zero, List.set_cons_succ]
            refine wpAnyH_take (i := 2) (oi := _) (v := ?vb3) rfl (by kernel_rfl) (by kernel_rfl) (by kernel_rfl) (fun _ _ _ h => h) (Or.inl ⟨by kernel_rfl, ?hyb3⟩) hHeld ?restb3
            case hyb3 => (intro w hSw; go_simp; first | done | (with_reducible rfl))
            try simp only [Act.put, List.getElem_toArray, List.getElem_cons_succ, List.getElem_cons_zero, List.setIfInBounds_toArray, List.set_cons_zero, List.set_cons_succ]
            refine wpAnyH_take (i := 3) (oi := _) (v := ?vb4) rfl (by kernel_rfl) (by kernel_rfl) (by kernel_rfl) (fun _ _ _ h => h) (Or.inl ⟨by kernel_rfl, ?hyb4⟩) hHeld ?restb4
            case hyb4 => (intro w hSw; go_simp; first | done | (with_reducible rfl))
            try simp only [Act.put, List.getElem_toArray, List.getElem_cons_succ, List.getElem_cons_zero, List.setIfInBounds_toArray, List.set_cons_zero, List.set_cons_succ]
            refine wpAnyH_take (i := 4) (oi := _) (v := ?vb5) rfl (by kernel_rfl) (by kernel_rfl) (by kernel_rfl) (fun _ _ _ h => h) (Or.inl ⟨by kernel_rfl, ?hyb5⟩) hHeld ?restb5
            case hyb5 => (intro w hSw; go_simp; first | done | (with_reducible rfl))
            try simp only [Act.put, List.getElem_toArray, List.getElem_cons_succ, List.getElem_cons_zero, List.setIfInBounds_toArray, List.set_cons_zero, List.set_cons_succ]
            refine wpAnyH_take (i := 5) (oi := _) (v := ?vb6) rfl (by kernel_rfl) (by kernel_rfl) (by kernel_rfl) (fun _ _ _ h => h) (Or.inl ⟨by kernel_rfl, ?hyb6⟩) hHeld ?restb6
            case hyb6 => (intro w hSw; have kp0 := hSw.cell hnp0 p0; have kp1 := hSw.cell hnp1 p1; have ky0 := hSw.cell hny0 y0; have ky1 := hSw.cell hny1 y1; have ky2 := hSw.cell hny2 y2; have ky3 := hSw.cell hny3 y3; have ky4 := hSw.cell hny4 y4; have ky5 := hSw.cell hny5 y5; have ky6 := hSw.cell hny6 y6; have ky7 := hSw.cell hny7 y7; go_simp; first | done | (with_reducible rfl))
            try simp only [Act.put, List.getElem_toArray, List.getElem_cons_succ, List.getElem_cons_zero, List.setIfInBounds_toArray, List.set_cons_zero, List.set_cons_succ]
            refine wpAnyH_take (i := 6) (oi := _) (v := ?vb7) rfl (by kernel_rfl) (by kernel_rfl) (by kernel_rfl) (fun _ _ _ h => h) (Or.inl ⟨by kernel_rfl, ?hyb7⟩) hHeld ?restb7
            case hyb7 => (intro w hSw; go_simp; first | done | (with_reducible rfl))
            try simp only [Act.put, List.getElem_toArray, List.getElem_cons_succ, List.getElem_cons_zero, List.setIfInBounds_toArray, List.set_cons_zero, List.set_cons_succ]
            refine wpAnyH_take (i := 7) (oi := _) (v := ?vb8) rfl (by kernel_rfl) (by kernel_rfl) (by kernel_rfl) (fun _ _ _ h => h) (Or.inl ⟨by kernel_rfl, ?hyb8⟩) hHeld ?restb8
            case hyb8 => (intro w hSw; go_simp; first | done | (with_reducible rfl))
            try simp only [Act.put, List.getElem_toArray, List.getElem_cons_succ, List.getElem_cons_zero, List.setIfInBounds_toArray, List.set_cons_zero, List.set_cons_succ]
            refine wpAnyH_take (i := 8) (oi := _) (v := ?vb9) rfl (by kernel_rfl) (by kernel_rfl) (by kernel_rfl) (fun _ _ _ h => h) (Or.inl ⟨by kernel_rfl, ?hyb9⟩) hHeld ?restb9
            case hyb9 => (intro w hSw; go_simp; first | done | (with_reducible rfl))
            try simp only [Act.put, List.getElem_toArray, List.getElem_cons_succ, List.getElem_cons_zero, List.setIfInBounds_toArray, List.set_cons_zero, List.set_cons_succ]
            refine wpAnyH_take (i := 9) (oi := _) (v := ?vb10) rfl (by kernel_rfl) (by kernel_rfl) (by kernel_rfl) (fun _ _ _ h => h) (Or.inl ⟨by kernel_rfl, ?hyb10⟩) hHeld ?restb10
            case hyb10 => (intro w hSw; go_simp; first | done | (with_reducible rfl))
            try simp only [Act.put, List.getElem_toArray, List.getElem_cons_succ, List.getElem_cons_zero, List.setIfInBounds_toArray, List.set_cons_zero, List.set_cons_succ]
            refine wpAnyH_take (i := 10) (oi := _) (v := ?vb11) rfl (by kernel_rfl) (by kernel_rfl) (by kernel_rfl) (fun _ _ _ h => h) (Or.inl ⟨by kernel_rfl, ?hyb11⟩) hHeld ?restb11
            case hyb11 => (intro w hSw; have kp0 := hSw.cell hnp0 p0; have kp1 := hSw.cell hnp1 p1; have ky0 := hSw.cell hny0 y0; have ky1 := hSw.cell hny1 y1; have ky2 := hSw.cell hny2 y2; have ky3 := hSw.cell hny3 y3; have ky4 := hSw.cell hny4 y4; have ky5 := hSw.cell hny5 y5; have ky6 := hSw.cell hny6 y6; have ky7 := hSw.cell hny7 y7; go_simp; first | done | (with_reducible rfl))
            try simp only [Act.put, List.getElem_toArray, List.getElem_cons_succ, List.getElem_cons_zero, List.setIfInBounds_toArray, List.set_cons_zero, List.set_cons_succ]
            refine wpAnyH_take (i := 11) (oi := _) (v := ?vb12) rfl (by kernel_rfl) (by kernel_rfl) (by kernel_rfl) (fun _ _ _ h => h) (Or.inl ⟨by kernel_rfl, ?hyb12⟩) hHeld ?restb12
            case hyb12 => (intro w hSw; go_simp; first | done | (with_reducible rfl))
            try simp only [Act.put, List.getElem_toArray, List.getElem_cons_succ, List.getElem_cons_zero, List.setIfInBounds_toArray, List.set_cons_zero, List.set_cons_succ]
            refine wpAnyH_take (i := 12) (oi := _) (v := ?vb13) rfl (by kernel_rfl) (by kernel_rfl) (by kernel_rfl) (fun _ _ _ h => h) (Or.inl ⟨by kernel_rfl, ?hyb13⟩) hHeld ?restb13
            case hyb13 => (intro w hSw; go_simp; first | done | (with_reducible rfl))
            try simp only [Act.put, List.getElem_toArray, List.getElem_cons_succ, List.getElem_cons_zero, List.setIfInBounds_toArray, List.set_cons_zero, List.set_cons_succ]
            refine wpAnyH_take (i := 13) (oi := _) (v := ?vb14) rfl (by kernel_rfl) (by kernel_rfl) (by kernel_rfl) (fun _ _ _ h => h) (Or.inl ⟨by kernel_rfl, ?hyb14⟩) hHeld ?restb14
            case hyb14 => (intro w hSw; go_simp; first | done | (with_reducible rfl))
            try simp only [Act.put, List.getElem_toArray, List.getElem_cons_succ, List.getElem_cons_zero, List.setIfInBounds_toArray, List.set_cons_zero, List.set_cons_succ]
            refine wpAnyH_take (i := 14) (oi := _) (v := ?vb15) rfl (by kernel_rfl) (by kernel_rfl) (by kernel_rfl) (fun _ _ _ h => h) (Or.inl ⟨by kernel_rfl, ?hyb15⟩) hHeld ?restb15
            case hyb15 => (intro w hSw; go_simp; first | done | (with_reducible rfl))
            try simp only [Act.put, List.getElem_toArray, List.getElem_cons_succ, List.getElem_cons_zero, List.setIfInBounds_toArray, List.set_cons_zero, List.set_cons_succ]
            refine wpAnyH_take (i := 15) (oi := _) (v := ?vb16) rfl (by kernel_rfl) (by kernel_rfl) (by kernel_rfl) (fun _ _ _ h => h) (Or.inl ⟨by kernel_rfl, ?hyb16⟩) hHeld ?restb16
            case hyb16 => (intro w hSw; have kp0 := hSw.cell hnp0 p0; have kp1 := hSw.cell hnp1 p1; have ky0 := hSw.cell hny0 y0; have ky1 := hSw.cell hny1 y1; have ky2 := hSw.cell hny2 y2; have ky3 := hSw.cell hny3 y3; have ky4 := hSw.cell hny4 y4; have ky5 := hSw.cell hny5 y5; have ky6 := hSw.cell hny6 y6; have ky7 := hSw.cell hny7 y7; go_simp; first | done | (with_reducible rfl))
            try simp only [Act.put, List.getElem_toArray, List.getElem_cons_succ, List.getElem_cons_zero, List.setIfInBounds_toArray, List.set_cons_zero, List.set_cons_succ]
            refine wpAnyH_ready (rs := [16]) (by kernel_rfl) (by simp) (AllReadyH.cons (o := _) rfl (fun K hK => ?_) AllReadyH.nil)
            go_simp
            refine (CM.out _ (hHeld.toBelow h8 (fun k hk => by omega) h8.size)).mono ?_
            rintro e wb17 hput
            obtain ⟨A3, m3, ca3, Q3, n3, cq3, r3, r4, rfl, hb3, hfd3⟩ := hput.one
            rw [HE2.out, HT2.out] at hfd3
            rw [HE2.out]
            have hpc := BX.lt
            have h8c : V8.heap.size ≤ wb0.heap.size := Nat.le_trans h8.size hHeld.size
            have hm := Mid.refl wb0.heap.size wb17
            go_wp2_with fail
            refine hK.out _ _ (hHeld.below hb3) (fun hNew => ?_)
            have cX := BX.lt
            replace BX := BX.keep hb3
            clear hb3
            clear hHeld hK K
            have hHeld := hNew
            clear hNew
            try simp only [Act.put, List.getElem_toArray, List.getElem_cons_succ, List.getElem_cons_zero, List.setIfInBounds_toArray, List.set_cons_zero, List.set_cons_succ]
            refine wpAnyH_take (i := 17) (oi := _) (v := ?vb18) rfl (by kernel_rfl) (by kernel_rfl) (by kernel_rfl) (fun _ _ _ h => h) (Or.inl ⟨by kernel_rfl, ?hyb18⟩) hHeld ?restb18
            case hyb18 => (intro w hSw; go_simp; first | done | (with_reducible rfl))
            try simp only [Act.put, List.getElem_toArray, List.getElem_cons_succ, List.getElem_cons_zero, List.setIfInBounds_toArray, List.set_cons_zero, List.set_cons_succ]
            refine wpAnyH_take (i := 18) (oi := _) (v := ?vb19) rfl (by kernel_rfl) (by kernel_rfl) (by kernel_rfl) (fun _ _ _ h => h) (Or.inl ⟨by kernel_rfl, ?hyb19⟩) hHeld ?restb19
            case hyb19 => (intro w hSw; go_simp; first | done | (with_reducible rfl))
            try simp only [Act.put, List.getElem_toArray, List.getElem_cons_succ, List.getElem_cons_zero, List.setIfInBounds_toArray, List.set_cons_zero, List.set_cons_succ]
            refine wpAnyH_take (i := 19) (oi := _) (v := ?vb20) rfl (by kernel_rfl) (by kernel_rfl) (by kernel_rfl) (fun _ _ _ h => h) (Or.inl ⟨by kernel_rfl, ?hyb20⟩) hHeld ?restb20
            case hyb20 => (intro w hSw; go_simp; first | done | (with_reducible rfl))
            try simp only [Act.put, List.getElem_toArray, List.getElem_cons_succ, List.getElem_cons_zero, List.setIfInBounds_toArray, List.set_cons_zero, List.set_cons_succ]
            refine wpAnyH_take (i := 20) (oi := _) (v := ?vb21) rfl (by kernel_rfl) (by kernel_rfl) (by kernel_rfl) (fun _ _ _ h => h) (Or.inl ⟨by kernel_rfl, ?hyb21⟩) hHeld ?restb21
            case hyb21 => (intro w hSw; go_simp; first | done | (with_reducible rfl))
            try simp only [Act.put, List.getElem_toArray, List.getElem_cons_succ, List.getElem_cons_zero, List.setIfInBounds_toArray, List.set_cons_zero, List.set_cons_succ]
            refine wpAnyH_ready (rs := [21]) (by kernel_rfl) (by simp) (AllReadyH.cons (o := _) rfl (fun K hK => ?_) AllReadyH.nil)
            have n0 := BX.c 0 rfl
            have f0 := BX.f 0 rfl
            have n1 := BX.c 1 rfl
            have f1 := BX.f 1 rfl
            go_simp
            clear n0 f0 n1 f1
            refine hK.out _ _ ((hHeld.set (.inl rfl) _).set (.inl rfl) _) (fun hNew => ?_)
            clear hHeld hK K
            have hHeld := hNew
            clear hNew
            try simp only [Act.put, List.getElem_toArray, List.getElem_cons_succ, List.getElem_cons_zero, List.setIfInBounds_toArray, List.set_cons_zero, List.set_cons_succ]
            refine at_anyH (fun v => GB (fun k => k = p11) V10 v ∧ BK v (p11) [.slice A3 m3 ca3, .slice Q3 n3 cq3] ∧ Mid wb0.heap.size wb17 v) ⟨hHeld, ((BX.set 0 _).set 1 _), ((hm.set (by omega) _).set (by omega) _)⟩ (fun wb22 hS => ?_)
            clear hHeld BX hm
            obtain ⟨hHeld, BX, hm⟩ := hS
            refine wpAnyH_take (i := 22) (oi := _) (v := ?vb23) rfl (by kernel_rfl) (by kernel_rfl) (by kernel_rfl) (fun _ _ _ h => h) (Or.inl ⟨by kernel_rfl, ?hyb23⟩) hHeld ?restb23
            case hyb23 => (intro w hSw; go_simp; first | done | (with_reducible rfl))
            try simp only [Act.put, List.getElem_toArray, List.getElem_cons_succ, List.getElem_cons_zero, List.setIfInBounds_toArray, List.set_cons_zero, List.set_cons_succ]
            refine wpAnyH_done (by kernel_rfl) ?_ _
            refine NoPanic.normal ?_
            have h8' := hHeld.toBelow h8 (fun k hk => by omega) h8.size
            have hf3 : E2 = 0 → ∃ l2, m3 = l2.length ∧ n3 = (L ++ [T2']).length ∧ l2.map Ak.dat = D ∧ FD wb22 V8.heap.size A3 ca3 l2 Q3 cq3 (L ++ [T2']) := fun h0 => (hfd3 h0).elim fun l2 h => ⟨l2, h.1, h.2.1, h.2.2.1, (h.2.2.2.mid hm).mono h8c⟩
            clear hfd3 hHeld h8
            by_cases hE : E2 = 0
            · obtain ⟨l2, rfl, rfl, hd2, hfd2⟩ := hf3 hE
              have HNX := Lib.hid (HSN.out.trans (HY2.out.1 hE))
              clear hf3
              rw [hE]
              have e0 : ((0 : Int) == 0) = true := rfl
              have b0 := BX.c 0 rfl
              have b1 := BX.c 1 rfl
              have B7 := BP.keep h8'
              have a0 := B7.c 0 rfl
              have a1 := B7.c 1 rfl
              have g0 := B7.f 0 rfl
              have g1 := B7.f 1 rfl
              have B4' := B4.keep h8'
              have HFD := Lib.hid (((hfd2.set (p := P7) (o := 0) (by omega) (.slice A3 l2.length ca3)).set (p := P7) (o := 1) (by omega) (.slice Q3 (L.length + 1) cq3)).mono (show w.heap.size + 1 ≤ V8.heap.size by omega))
              have hb' := keepB hbb h8'
              have HD2 := Lib.hid hd2
              clear hfd2 hd2 hE hfd
              go_wp2_with fail
              go_roundw
              case rel => exact ⟨k + 1, A3, ca3, l2, Q3, cq3, L ++ [T2'], by omega, by go_num, by rw [List.length_append]; go_num, HNX.out, HD2.out, below_set (below_set hb' (by omega) _) (by omega) _, (B4'.far (by omega) _ _).far (by omega) _ _, by rw [List.length_append]; exact (B7.set 0 _).set 1 _, HFD.out⟩
              case measure => simp [intOf]; omega
            · have HNX := Lib.hid (HSN.out.trans (HY2.out.2 hE))
              have e0 : (E2 == 0) = false := by rw [beq_eq_false_iff_ne]; exact hE
              have hfd' := hfd.keep h8'
              have B7 := BP.keep h8'
              have B4' := B4.keep h8'
              have hb' := keepB hbb h8'
              clear hf3 hE hfd
              go_wp2_with fail
              go_roundw
              case rel => exact ⟨k + 1, A, ca, l, Q, cq, L, by omega, by go_num, rfl, HNX.out, HDD.out, hb', B4', B7, hfd'⟩
              case measure => simp [intOf]; omega

          · have HY1 := Lib.hid (show (E1 = 0 → (if Ak.putE D L.length (Ak.asks ⟨ag, kd, a, b', c, d, x, y⟩) = 0 then L ++ [Ak.told D (Ak.asks ⟨ag, kd, a, b', c, d, x, y⟩)] else L) = L ++ [T1]) ∧ (¬ E1 = 0 → (if Ak.putE D L.length (Ak.asks ⟨ag, kd, a, b', c, d, x, y⟩) = 0 then L ++ [Ak.told D (Ak.asks ⟨ag, kd, a, b', c, d, x, y⟩)] else L) = L) by
              have ea : Ak.asks ⟨ag, kd, a, b', c, d, x, y⟩ = ⟨ag, 1, a, b', c, d, 0, 0⟩ := by unfold Ak.asks; dsimp only; rw [if_neg hk2]
              rw [ea, hE1, hT1]
              exact ⟨fun e => by rw [if_pos e], fun e => by rw [if_neg e]⟩)
            have ek : (kd == 2) = false := by rw [beq_eq_false_iff_ne]; exact hk2
            have y1' := keepC h8 y1
            clear CM HE2 hE2 hT2 hE1 hT1 hk2
            go_upto_region 11 with fail
            clear y1'
            refine at_worldQ (fun v => Below V8.heap.size V8 v ∧ BK v p11 [.slice A2 m2 ca2, .slice Q2 n2 cq2] ∧ (E1 = 0 → ∃ l2, m2 = l2.length ∧ n2 = (L ++ [T1]).length ∧ l2.map Ak.dat = D ∧ FD v V8.heap.size A2 ca2 l2 Q2 cq2 (L ++ [T1]))) ⟨h8, BX, hf2⟩ (fun V11 hS => ?_)
            clear h8 BX hf2
            obtain ⟨h8, BX, hf2⟩ := hS
            by_cases hE : E1 = 0
            · obtain ⟨l2, rfl, rfl, hd2, hfd2⟩ := hf2 hE
              have HNX := Lib.hid (HSN.out.trans (HY1.out.1 hE))
              clear hf2
              rw [hE]
              have e0 : ((0 : Int) == 0) = true := rfl
              have b0 := BX.c 0 rfl
              have b1 := BX.c 1 rfl
              have B7 := BP.keep h8
              have a0 := B7.c 0 rfl
              have a1 := B7.c 1 rfl
              have g0 := B7.f 0 rfl
              have g1 := B7.f 1 rfl
              have B4' := B4.keep h8
              have HFD := Lib.hid (((hfd2.set (p := P7) (o := 0) (by omega) (.slice A2 l2.length ca2)).set (p := P7) (o := 1) (by omega) (.slice Q2 (L.length + 1) cq2)).mono (show w.heap.size + 1 ≤ V8.heap.size by omega))
              have hb' := keepB hbb h8
              have HD2 := Lib.hid hd2
              clear hfd2 hd2 hE hfd
              go_wp2_with fail
              go_roundw
              case rel => exact ⟨k + 1, A2, ca2, l2, Q2, cq2, L ++ [T1], by omega, by go_num, by rw [List.length_append]; go_num, HNX.out, HD2.out, below_set (below_set hb' (by omega) _) (by omega) _, (B4'.far (by omega) _ _).far (by omega) _ _, by rw [List.length_append]; exact (B7.set 0 _).set 1 _, HFD.out⟩
              case measure => simp [intOf]; omega
            · have HNX := Lib.hid (HSN.out.trans (HY1.out.2 hE))
              have e0 : (E1 == 0) = false := by rw [beq_eq_false_iff_ne]; exact hE
              have hfd' := hfd.keep h8
              have B7 := BP.keep h8
              have B4' := B4.keep h8
              have hb' := keepB hbb h8
              clear hf2 hE hfd
              go_wp2_with fail
              go_roundw
              case rel => exact ⟨k + 1, A, ca, l, Q, cq, L, by omega, by go_num, rfl, HNX.out, HDD.out, hb', B4', B7, hfd'⟩
              case measure => simp [intOf]; omega

      · obtain rfl : k = qs.length := by omega
        have hL : LL = L := by rw [← HLL.out, ← HRAN.out, List.take_length]
        subst hL
        have HFD := Lib.hid (((hfd.set (p := w.heap.size) (o := 0) (by omega) (.slice A l.length ca)).set (p := w.heap.size) (o := 1) (by omega) (.slice Q LL.length cq)).mono (show w.heap.size ≤ w.heap.size + 1 by omega))
        have p0 := BP.c 0 rfl
        have p1 := BP.c 1 rfl
        have r0 := B4.c 0 rfl
        have r1 := B4.c 1 rfl
        have f0 := B4.f 0 rfl
        have f1 := B4.f 1 rfl
        clear HC HA H6 HLN HSN' HRAN HLL hfd hlt
        go_wp2_with fail
        exact bodyPost_ret (v := .tuple #[.agg #[.slice A l.length ca, .slice Q LL.length cq], .int .i64 LL.length, .bool true]) (by simp [results, Try.results69, go_sem, p0, p1, r0, r1]) rfl ⟨below_set (below_set hbb (by omega) _) (by omega) _, .inr ⟨HZ.out, A, ca, l, Q, cq, rfl, HDD.out, HFD.out⟩⟩
end Go.Proofs.Ytomokdepndclpaa
namespace Go.Proofs.Ytomokdepndclpaa
open Go.RowKit
namespace Ak
/-- A query that was asked and answered. -/
def Rt (D : List CkD) (q : Qr) : Prop := ansS D q = (q.x, q.y, 0) ∧ (q.kd = 1 ∨ q.kd = 2) ∧ 0 ≤ q.ag ∧ q.ag < D.length
theorem ansS_xy (D : List CkD) (ag kd a b c d x y x' y' : Int) : ansS D ⟨ag, kd, a, b, c, d, x, y⟩ = ansS D ⟨ag, kd, a, b, c, d, x', y'⟩ := rfl
theorem putE_zero {D : List CkD} {n : Nat} {q : Qr} (h : putE D n q = 0) : chkS D n = 0 ∧ (ansS D q).2.2 = 0 := by
  unfold putE at h
  by_cases h1 : chkS D n = 0
  · refine ⟨h1, ?_⟩
    rw [if_neg (fun k => k h1)] at h
    by_cases h2 : (ansS D q).2.2 = 0
    · exact h2
    · rw [if_pos h2] at h
      exact h
  · rw [if_pos h1] at h
    exact absurd h h1
theorem told_rt {D : List CkD} {n : Nat} {q0 : Qr} (h : putE D n (asks q0) = 0) : Rt D (told D (asks q0)) := by
  obtain ⟨_, he⟩ := putE_zero h
  obtain ⟨ag, kd, a, b, c, d, x, y⟩ := q0
  refine ⟨?_, ?_, ?_⟩
  · unfold told
    show ansS D (asks ⟨ag, kd, a, b, c, d, x, y⟩) = _
    exact Prod.ext rfl (Prod.ext rfl he)
  · show (if kd = 2 then (2 : Int) else 1) = 1 ∨ (if kd = 2 then (2 : Int) else 1) = 2
    by_cases hk : kd = 2
    · rw [if_pos hk]; exact .inr rfl
    · rw [if_neg hk]; exact .inl rfl
  · show 0 ≤ ag ∧ ag < D.length
    by_cases hg : 0 ≤ ag ∧ ag < D.length
    · exact hg
    · unfold ansS at he
      rw [if_neg (show ¬ (0 ≤ (asks ⟨ag, kd, a, b, c, d, x, y⟩).ag ∧ (asks ⟨ag, kd, a, b, c, d, x, y⟩).ag < D.length) from hg)] at he
      cases he
theorem ran_rt (D : List CkD) (qs : List Qr) : ∀ q ∈ ranL D qs, Rt D q := by
  unfold ranL
  suffices h : ∀ (qs L : List Qr), (∀ q ∈ L, Rt D q) → ∀ q ∈ qs.foldl (rstep D) L, Rt D q from h qs [] (fun q hq => by cases hq)
  intro qs
  induction qs with
  | nil => intro L h; exact h
  | cons q0 qs ih =>
    intro L h
    refine ih _ fun q hq => ?_
    unfold rstep at hq
    split at hq
    · rename_i h0
      rcases List.mem_append.1 hq with hq | hq
      · exact h q hq
      · have : q = told D (asks q0) := by simpa using hq
        rw [this]
        exact told_rt h0
    · exact h q hq
theorem chkS_up {D : List CkD} {n : Nat} (h : chkS D 0 = 0) (hn : n ≤ 2000) : chkS D n = 0 := by
  have g := chkS_good h
  exact good_chkS ⟨g.l0, g.l1, hn, g.all, g.same⟩
theorem told_fix {D : List CkD} {q : Qr} (h : Rt D q) : told D (asks q) = q ∧ (ansS D (asks q)).2.2 = 0 := by
  obtain ⟨ag, kd, a, b, c, d, x, y⟩ := q
  obtain ⟨h1, h2, _⟩ := h
  have hk : (if kd = 2 then (2 : Int) else 1) = kd := by
    rcases h2 with h2 | h2
    · have : kd = 1 := h2
      subst this; rfl
    · have : kd = 2 := h2
      subst this; rfl
  have e : asks ⟨ag, kd, a, b, c, d, x, y⟩ = ⟨ag, kd, a, b, c, d, 0, 0⟩ := by unfold asks; dsimp only; rw [hk]
  rw [e]
  have e2 : ansS D ⟨ag, kd, a, b, c, d, 0, 0⟩ = (x, y, 0) := h1
  unfold told
  rw [e2]
  exact ⟨rfl, rfl⟩
theorem ran_fix {D : List CkD} (h0 : chkS D 0 = 0) : ∀ (M L : List Qr), (∀ q ∈ M, Rt D q) → L.length + M.length ≤ 30 → M.foldl (rstep D) L = L ++ M
  | [], L, _, _ => by simp
  | q :: M, L, h, hl => by
    have hr := told_fix (h q (by simp))
    simp only [List.length_cons] at hl
    have e : rstep D L q = L ++ [q] := by
      unfold rstep putE
      rw [if_pos]
      · rw [hr.1]
      · rw [if_neg (fun k => k (chkS_up h0 (by omega))), if_neg (fun k => k hr.2), if_neg (by omega)]
    rw [List.foldl_cons, e, ran_fix h0 M (L ++ [q]) (fun x hx => h x (by simp [hx])) (by simp; omega)]
    simp
theorem ran_again {D : List CkD} {L : List Qr} (h0 : chkS D 0 = 0) (h : ∀ q ∈ L, Rt D q) (hl : L.length ≤ 30) : ranL D L = L := by
  unfold ranL
  rw [ran_fix h0 L [] h (by simpa using hl)]
  simp
theorem rep_all {D : List CkD} {L : List Qr} (h0 : chkS D 0 = 0) (h : ∀ q ∈ L, Rt D q) (hl : L.length ≤ 30) : repS D L = ((L.length : Int), 0) := by
  unfold repS
  rw [if_neg (fun k => k (chkS_up h0 (by omega))), firstW_all]
  intro j hj
  obtain ⟨h1, _⟩ := h _ (qat_mem hj)
  unfold wrongS
  rw [h1]
  simp
/-- The queries of agents before j. -/
def upTo (L : List Qr) (j : Nat) : Nat := (L.filter fun q => decide (q.ag < (j : Int))).length
theorem upTo_zero {D : List CkD} {L : List Qr} (h : ∀ q ∈ L, Rt D q) : upTo L 0 = 0 := by
  unfold upTo
  rw [List.length_eq_zero_iff, List.filter_eq_nil_iff]
  intro q hq
  have := (h q hq).2.2.1
  simp; omega
theorem upTo_all {D : List CkD} {L : List Qr} (h : ∀ q ∈ L, Rt D q) : upTo L D.length = L.length := by
  unfold upTo
  congr 1
  rw [List.filter_eq_self]
  intro q hq
  have := (h q hq).2.2.2
  simpa using this
theorem upTo_succ (L : List Qr) (j : Nat) : upTo L (j + 1) = upTo L j + cntS L j := by
  unfold cntS
  rw [if_neg (by omega)]
  unfold upTo cnt
  induction L with
  | nil => rfl
  | cons q L ih =>
    by_cases h1 : q.ag = (j : Int)
    · have a1 : decide (q.ag < ((j + 1 : Nat) : Int)) = true := decide_eq_true (by omega)
      have a2 : decide (q.ag < ((j : Nat) : Int)) = false := decide_eq_false (by omega)
      have a3 : decide (q.ag = ((j : Nat) : Int)) = true := decide_eq_true h1
      simp only [List.filter_cons, a1, a2, a3, if_true, List.length_cons]
      simp only [Bool.false_eq_true, if_false]
      omega
    · have a3 : decide (q.ag = ((j : Nat) : Int)) = false := decide_eq_false h1
      by_cases h2 : q.ag < ((j : Nat) : Int)
      · have a1 : decide (q.ag < ((j + 1 : Nat) : Int)) = true := decide_eq_true (by omega)
        have a2 : decide (q.ag < ((j : Nat) : Int)) = true := decide_eq_true h2
        simp only [List.filter_cons, a1, a2, a3, if_true, List.length_cons, Bool.false_eq_true, if_false]
        omega
      · have a1 : decide (q.ag < ((j + 1 : Nat) : Int)) = false := decide_eq_false (by omega)
        have a2 : decide (q.ag < ((j : Nat) : Int)) = false := decide_eq_false h2
        simp only [List.filter_cons, a1, a2, a3, Bool.false_eq_true, if_false]
        omega
theorem upTo_le (L : List Qr) (j : Nat) : upTo L j ≤ L.length := List.length_filter_le _ _
end Ak
set_option linter.unusedSimpArgs false in
set_option maxHeartbeats 8000000 in
set_option maxRecDepth 100000 in
theorem replays_walk (A0 : Option Addr) (ca0 : Nat) (cs : List CkR) (Q0 : Option Addr) (cq0 : Nat) (qs : List Qr) (w : World) (h : IsCs w A0 cs) (hq : IsQs w Q0 qs) :
    Calls Try.prog 14 #[.slice A0 cs.length ca0, .slice Q0 qs.length cq0] w fun e w' => e = .returned (.bool true) ∧ Below w.heap.size w w' := by
  have gx := fun v (hv : Below w.heap.size w v) => rGreatCakes_any A0 ca0 cs v (h.keep hv)
  have hln := hq.len
  have hlc := h.len
  unfold maxLen at hln hlc
  by_cases hg : Ak.greatCs (cs.map Ak.dat) = true
  · rw [hg] at gx
    have GX := Lib.hid gx
    clear gx hg h hq
    go_enter Try.func14, Try.ntmps14
    go_wp2_with fail
    refine (GX.out _ (Below.refl _ _)).mono ?_
    rintro e w1 ⟨rfl, hbb⟩
    go_wp2_with fail
    refine (alive4_any _).mono ?_
    rintro e w2 ⟨rfl, hb⟩
    replace hbb := keepB hbb hb
    go_wp2_with fail
    go_ret
    exact ⟨rfl, hbb⟩
  have hg : Ak.greatCs (cs.map Ak.dat) = false := by simpa using hg
  rw [hg] at gx
  by_cases h30 : 30 < qs.length
  · have d30 : decide ((30 : Int) < (qs.length : Int)) = true := decide_eq_true (by omega)
    have GX := Lib.hid gx
    clear gx hg h hq h30
    go_enter Try.func14, Try.ntmps14
    go_wp2_with fail
    refine (GX.out _ (Below.refl _ _)).mono ?_
    rintro e w1 ⟨rfl, hbb⟩
    go_wp2_with fail
    refine (alive4_any _).mono ?_
    rintro e w2 ⟨rfl, hb⟩
    replace hbb := keepB hbb hb
    go_wp2_with fail
    go_ret
    exact ⟨rfl, hbb⟩
  have d30 : decide ((30 : Int) < (qs.length : Int)) = false := decide_eq_false (by omega)
  have GX := Lib.hid gx
  have RN := Lib.hid (fun v (hv : Below w.heap.size w v) => ran_any A0 ca0 cs Q0 cq0 qs v (h.keep hv) (hq.keep hv) (by omega))
  have hlen := Ak.ranL_len (cs.map Ak.dat) qs qs.length (Nat.le_refl _)
  rw [List.take_length] at hlen
  have hrt := Ak.ran_rt (cs.map Ak.dat) qs
  unfold RanQ at RN
  by_cases h0 : Ak.chkS (cs.map Ak.dat) 0 = 0
  case neg =>
    have CH := Lib.hid (fun v (hv : Below w.heap.size w v) => rAskCheck_any A0 ca0 cs none 0 0 v (by simp) (h.keep hv))
    have n1 : (Ak.chkS (cs.map Ak.dat) 0 != 0) = true := by rw [bne_iff_ne]; exact h0
    generalize Ak.chkS (cs.map Ak.dat) 0 = z at *
    generalize Ak.ranL (cs.map Ak.dat) qs = L at *
    clear gx hg h hq h30 hrt
    go_enter Try.func14, Try.ntmps14
    go_wp2_with fail
    refine (GX.out _ (Below.refl _ _)).mono ?_
    rintro e w1 ⟨rfl, hbb⟩
    go_wp2_with fail
    refine (RN.out _ hbb).mono ?_
    rintro e w2 ⟨hb, hres⟩
    replace hbb := keepB hbb hb
    clear hb RN GX
    rcases hres with ⟨_, rfl⟩ | ⟨hz, _⟩
    · go_upto_region 4 with fail
      refine at_worldQ (fun v => Below w.heap.size w v) (below_al hbb _) (fun V hbb => ?_)
      go_wp2_with fail
      refine (CH.out _ hbb).mono ?_
      rintro e w3 ⟨rfl, hb⟩
      replace hbb := keepB hbb hb
      clear hb CH
      go_wp2_with fail
      refine (alive4_any _).mono ?_
      rintro e w4 ⟨rfl, hb⟩
      replace hbb := keepB hbb hb
      go_wp2_with fail
      go_ret
      exact ⟨rfl, hbb⟩
    · exact absurd hz h0
  case pos =>
    have hl30 : (Ak.ranL (cs.map Ak.dat) qs).length ≤ 30 := by omega
    have hrep := Ak.rep_all h0 hrt hl30
    have hag := Ak.ran_again h0 hrt hl30
    have u0 := Ak.upTo_zero hrt
    have ua := Ak.upTo_all hrt
    rw [List.length_map] at ua
    have RP := Lib.hid (fun Q cq v (hv : Below w.heap.size w v) (k : IsQs v Q (Ak.ranL (cs.map Ak.dat) qs)) => askReplay_any A0 ca0 cs Q cq (Ak.ranL (cs.map Ak.dat) qs) v (h.keep hv) k)
    have R2 := Lib.hid (fun Q cq v (hv : Below w.heap.size w v) (k : IsQs v Q (Ak.ranL (cs.map Ak.dat) qs)) => ran_any A0 ca0 cs Q cq (Ak.ranL (cs.map Ak.dat) qs) v (h.keep hv) k hl30)
    unfold RanQ at R2
    have SM := Lib.hid (fun A ca l v (hv : Below w.heap.size w v) (k : IsCs v A l) => rSameCakes_any A A0 ca ca0 l cs v k (h.keep hv))
    generalize Ak.ranL (cs.map Ak.dat) qs = L at *
    generalize cs.map Ak.dat = D at *
    rw [hrep] at RP
    rw [hag] at R2
    have H0 := Lib.hid h0
    have HUA := Lib.hid ua
    have HU0 := Lib.hid u0
    have hL30 : L.length ≤ 30 := hl30
    clear gx hg h hq h30 hrt hrep hag hlen u0 ua h0 hl30
    go_enter Try.func14, Try.ntmps14
    go_wp2_with fail
    refine (GX.out _ (Below.refl _ _)).mono ?_
    rintro e w1 ⟨rfl, hbb⟩
    go_wp2_with fail
    refine (RN.out _ hbb).mono ?_
    rintro e w2 ⟨hb, hres⟩
    replace hbb := keepB hbb hb
    clear hb RN GX
    rcases hres with ⟨hz, _⟩ | ⟨_, A, ca, l, Q, cq, rfl, hdat, hfd⟩
    · exact absurd H0.out hz
    · go_upto_region 4 with fail
      refine at_worldQ (fun v => Below w.heap.size w v ∧ BK v w2.heap.size [.slice A l.length ca, .slice Q L.length cq] ∧ IsCs v A l ∧ IsQs v Q L) ⟨below_al hbb _, BK.new w2 [.slice A l.length ca, .slice Q L.length cq] _, hfd.isCs.keep (below_al (Below.refl _ _) _), hfd.isQs.keep (below_al (Below.refl _ _) _)⟩ (fun V4 hS => ?_)
      clear hbb hfd
      obtain ⟨hbb, B5, hcs, hqs⟩ := hS
      generalize w2.heap.size = P5 at *
      have HD := Lib.hid hdat
      clear hdat
      have q1 := B5.c 1 rfl
      go_wp2_with fail
      refine (RP.out Q cq _ hbb hqs).mono ?_
      rintro e w3 ⟨rfl, hb⟩
      clear q1
      replace hbb := keepB hbb hb
      replace B5 := B5.keep hb
      replace hcs := hcs.keep hb
      replace hqs := hqs.keep hb
      clear hb RP
      have e0 : ((0 : Int) != 0) = false := rfl
      have q0 := B5.c 0 rfl
      have q1 := B5.c 1 rfl
      go_wp2_with fail
      refine (count_any Q cq L (-1) _ hqs).mono ?_
      rintro e w4 ⟨rfl, hb⟩
      have ec : Ak.cntS L (-1) = L.length := by unfold Ak.cntS; rw [if_pos rfl]
      rw [ec]
      clear q0 q1 ec
      replace hbb := keepB hbb hb
      replace B5 := B5.keep hb
      replace hcs := hcs.keep hb
      replace hqs := hqs.keep hb
      clear hb
      have q0 := B5.c 0 rfl
      have q1 := B5.c 1 rfl
      go_wp2_with fail
      refine (SM.out A ca l _ hbb hcs).mono ?_
      rw [HD.out, decide_eq_true rfl]
      rintro e w5 ⟨rfl, hb⟩
      clear q0 q1 hcs
      replace hbb := keepB hbb hb
      replace B5 := B5.keep hb
      replace hqs := hqs.keep hb
      clear hb SM
      go_wp2_with fail
      go_loopw [10, 11] (fun s i W => ∃ j n : Nat, j ≤ cs.length ∧ i = .int .i64 j ∧ s = .int .i64 n ∧ Ak.upTo L j = n ∧ Below w.heap.size w W ∧ BK W P5 [.slice A l.length ca, .slice Q L.length cq] ∧ IsQs W Q L) (fun _ i _ => cs.length - (intOf i).toNat)
      case atStart => exact ⟨0, 0, Nat.zero_le _, rfl, rfl, HU0.out, hbb, B5, hqs⟩
      case round =>
        clear hbb B5 hqs
        obtain ⟨j, n, hj, rfl, rfl, hn, hbb, B5, hqs⟩ := hrel
        have q1 := B5.c 1 rfl
        have hle := Ak.upTo_le L j
        by_cases hlt : j < cs.length
        · have hs := Ak.upTo_succ L j
          have hle2 := Ak.upTo_le L (j + 1)
          rw [hn] at hs hle
          rw [hs] at hle2
          have HS := Lib.hid hs
          clear hs hn
          have CN := Lib.hid (count_any Q cq L j wr hqs)
          generalize Ak.cntS L j = m at *
          go_wp2_with fail
          refine CN.out.mono ?_
          rintro e w6 ⟨rfl, hb⟩
          clear q1
          replace hbb := keepB hbb hb
          replace B5 := B5.keep hb
          replace hqs := hqs.keep hb
          clear hb CN
          go_wp2_with fail
          go_roundw
          case rel => exact ⟨j + 1, n + m, by omega, by go_num, by go_num, HS.out, hbb, B5, hqs⟩
          case measure => simp [intOf]; omega
        · obtain rfl : j = cs.length := by omega
          have hnL : n = L.length := hn.symm.trans HUA.out
          subst hnL
          have R2' := Lib.hid (R2.out Q cq wr hbb hqs)
          clear hn hle R2
          go_wp2_with fail
          refine R2'.out.mono ?_
          rintro e w6 ⟨hb, hres⟩
          clear q1
          replace hbb := keepB hbb hb
          replace B5 := B5.keep hb
          replace hqs := hqs.keep hb
          clear hb R2'
          rcases hres with ⟨hz, _⟩ | ⟨_, A2, ca2, l2, Q2, cq2, rfl, hdat2, hfd2⟩
          · exact absurd H0.out hz
          · go_upto_region 15 with fail
            refine at_worldQ (fun v => Below w.heap.size w v ∧ BK v P5 [.slice A l.length ca, .slice Q L.length cq] ∧ BK v w6.heap.size [.slice A2 l2.length ca2, .slice Q2 L.length cq2] ∧ IsQs v Q L ∧ IsQs v Q2 L) ⟨below_al hbb _, B5.al _, BK.new w6 [.slice A2 l2.length ca2, .slice Q2 L.length cq2] _, hqs.keep (below_al (Below.refl _ _) _), hfd2.isQs.keep (below_al (Below.refl _ _) _)⟩ (fun V15 hS => ?_)
            clear hbb B5 hqs hfd2 hdat2
            obtain ⟨hbb, B5, B6, hqs, hqs2⟩ := hS
            generalize w6.heap.size = P6 at *
            have q1 := B5.c 1 rfl
            have s1 := B6.c 1 rfl
            have SL := Lib.hid (rSameLogs_any Q2 Q cq2 cq L L V15 hqs2 hqs)
            rw [decide_eq_true rfl] at SL
            go_wp2_with fail
            refine SL.out.mono ?_
            rintro e w7 ⟨rfl, hb⟩
            replace hbb := keepB hbb hb
            clear hb SL q1 s1 B5 B6 hqs hqs2
            go_wp2_with fail
            refine (alive4_any _).mono ?_
            rintro e w8 ⟨rfl, hb⟩
            replace hbb := keepB hbb hb
            clear hb
            go_wp2_with fail
            go_ret
            exact ⟨rfl, hbb⟩
end Go.Proofs.Ytomokdepndclpaa
