/- The law TrimTurns. -/
import Derived.Test.YtpcdggkajindbaaGreatTrl
import Derived.Test.YtpcdggkajindbaaGreatGw
import Derived.Test.YtpcdggkajindbaaGreatTrx
namespace Go.Proofs.YtpcdggkajindbaaGreat
open Go.RowKit
namespace Ch
/-- Who has had a turn. -/
def hadv (T : List Tn) (nn j : Nat) : List Value := (List.range nn).map fun k => Value.bool ((T.take j).any fun t => t.ag == k)
theorem hadv_nil (T : List Tn) (nn : Nat) : hadv T nn 0 = List.replicate nn (.bool false) := by
  unfold hadv
  exact List.ext_getElem (by simp) fun k h1 h2 => by simp
theorem hadv_at (T : List Tn) {nn j k : Nat} (h : k < nn) : (hadv T nn j)[k]? = some (.bool ((T.take j).any fun t => t.ag == k)) := by
  unfold hadv
  simp [h]
theorem hadv_no {T : List Tn} {j x : Nat} (h : ∀ i, i < j → (T.getD i tnz).ag ≠ x) (hj : j ≤ T.length) : ((T.take j).any fun t => t.ag == x) = false := by
  rw [List.any_eq_false]
  intro t ht
  obtain ⟨i, hi, rfl⟩ := List.mem_iff_getElem.1 ht
  have hl := List.length_take_le j T
  have hi2 : i < j := by rw [List.length_take] at hi; omega
  have := h i hi2
  rw [List.getElem_take]
  have e : T.getD i tnz = T[i]'(by omega) := by simp [show i < T.length by omega]
  rw [e] at this
  simpa using this
theorem hadv_set (T : List Tn) {nn j : Nat} (h : j < T.length) : (hadv T nn j).set (T.getD j tnz).ag (.bool true) = hadv T nn (j + 1) := by
  unfold hadv
  refine List.ext_getElem (by simp) fun k h1 h2 => ?_
  simp only [List.getElem_set, List.getElem_map, List.getElem_range]
  have e : T.getD j tnz = T[j] := by simp [h]
  rw [List.take_add_one, List.getElem?_eq_getElem h, List.any_append, e]
  by_cases hk : T[j].ag = k
  · simp [hk]
  · simp [hk]
theorem pcs_at {T : List Tn} {G : Nat → Nat} {nn k : Nat} {x : Tn} (h : k < nn) (e : lastOf T k = some x) : (pcs nn T G)[k]? = some (.slice (some ⟨G k, 0, none⟩) 1 1) := by
  unfold pcs pcv
  simp [h, e]
end Ch
theorem bool_make (n : Nat) (hn : n ≤ 1000) (v : World) : Sem.run Tryz.prog (Instr.makeSlice 55 (.int .i64 (n : Int)) (.int .i64 (n : Int))) v = .ok (.slice (some ⟨v.heap.size, 0, none⟩) n n) (v.alloc (.cells (Array.replicate n (Value.bool false)) 4)) := by
  have h := run_make_row' (P := Tryz.prog) 55 4 (.bool false) 1 (by kernel_rfl) (by kernel_rfl) rfl .i64 .i64 n (by omega) (by omega) v
  have e : madeCells #[Value.bool false] n = Array.replicate n (Value.bool false) := by
    apply Array.ext
    · simp [madeCells]
    · intro i h1 h2
      simp [madeCells, Nat.mod_one]
  rw [e] at h
  exact h
theorem bk_had (w : World) (T : List Ch.Tn) (nn : Nat) : BK (w.alloc (.cells (Array.replicate nn (Value.bool false)) 4)) w.heap.size (Ch.hadv T nn 0) := by
  rw [Ch.hadv_nil, ← List.toArray_replicate]
  exact BK.new _ _ _
set_option linter.unusedSimpArgs false in
set_option maxHeartbeats 8000000 in
set_option maxRecDepth 100000 in
theorem turns_walk (A : Option Addr) (ca : Nat) (cs : List CkR) (w : World) (h : IsCs w A cs) :
    Calls Tryz.prog 5 #[.slice A cs.length ca] w fun e w' => e = .returned (.bool true) ∧ Below w.heap.size w w' := by
  have ft := fit8_any A ca cs w h
  cases hft : Ch.fitP8 (cs.map Ak.dat)
  case false =>
    rw [hft] at ft
    have FT := Lib.hid ft
    clear ft hft h
    go_enter Tryz.func5, Tryz.ntmps5
    go_wp2_with fail
    refine FT.out.mono ?_
    rintro e w1 ⟨rfl, hb⟩
    go_wp2_with fail
    refine (alive8_any _).mono ?_
    rintro e w2 ⟨rfl, hb2⟩
    go_wp2_with fail
    go_ret
    exact ⟨rfl, keepB hb hb2⟩
  rw [hft] at ft
  have hc := Ch.fit8_of hft
  obtain ⟨D, hD⟩ : ∃ z, cs.map Ak.dat = z := ⟨_, rfl⟩
  rw [hD] at hc
  have hgd := Ak.chkS_good hc
  have hn6 := hgd.l1
  have hn1 := hgd.l0
  obtain ⟨nn, hnn⟩ : ∃ z, cs.length = z := ⟨_, rfl⟩
  have hDl : D.length = nn := by rw [← hD, List.length_map, hnn]
  obtain ⟨n, hn⟩ : ∃ z : Int, z = (D.length : Nat) := ⟨_, rfl⟩
  obtain ⟨len, hlen⟩ : ∃ z, (Ak.dAt D 0).1 = z := ⟨_, rfl⟩
  obtain ⟨s0, hs0⟩ : ∃ z : Ch.St, z = ⟨0, 1, List.range nn, []⟩ := ⟨_, rfl⟩
  have hs0' : s0 = ⟨0, 1, List.range D.length, []⟩ := by rw [hDl]; exact hs0
  have inv := fun i (hi : i < nn) => Ch.inv_sts hc hn hlen i (by omega)
  have gds := fun i (hi : i < nn) => Ch.sgood_sts hc hn hlen i (by omega)
  rw [← hs0'] at inv gds
  rw [hDl] at gds
  have run := fun v (hv : Below w.heap.size w v) => tmrun_any D n len nn A ca cs s0 hs0 v (h.keep hv) hD hc hn hDl.symm hlen gds
  obtain ⟨T, hT⟩ : ∃ z, ((List.range nn).map fun k => Ch.rtn D n len (Ch.sts D n len s0 k)) = z := ⟨_, rfl⟩
  have hTk : ∀ k, k < nn → T.getD k Ch.tnz = Ch.rtn D n len (Ch.sts D n len s0 k) := fun k hk => by
    rw [← hT]
    simp [hk]
  have hTl : T.length = nn := by rw [← hT]; simp
  have tp : ∀ k, k < nn → Ch.TurnP D n len k (T.getD k Ch.tnz) := fun k hk => by
    rw [hTk k hk]
    exact (inv k hk).turn hc hn hlen (by have := (gds k hk).2; omega)
  have tn : ∀ k, k < nn → ∀ i, i < k → (T.getD i Ch.tnz).ag ≠ (T.getD k Ch.tnz).ag := fun k hk i hi => by
    rw [hTk k hk, hTk i (by omega)]
    exact Ch.turn_ne hc hn hlen s0 hs0' (by omega) hi
  have tl : ∀ k, k < nn → Ch.lastOf T (T.getD k Ch.tnz).ag = some (T.getD k Ch.tnz) := fun k hk => by
    rw [hTk k hk, ← hT]
    have := Ch.last_of hc hn hlen s0 hs0' (i := k) (by omega)
    rw [hDl] at this
    exact this
  have hpt : ∀ k, (Ch.sts D n len s0 (k + 1)).a = (Ch.rtn D n len (Ch.sts D n len s0 k)).x ∧ (Ch.sts D n len s0 (k + 1)).b = (Ch.rtn D n len (Ch.sts D n len s0 k)).y := fun k => ⟨rfl, rfl⟩
  have hle := Ch.last_end hc hn hlen s0 hs0'
  rw [hDl] at hle
  have hcc : ∀ k, k < nn → Ak.cat cs k ∈ cs ∧ Ak.dAt D k = Ak.dat (Ak.cat cs k) := fun k hk => ⟨Ak.cat_mem (by omega), by rw [← hD]; exact Ak.dAt_map cs (by omega)⟩
  have val : ∀ k, k < nn → ∀ v, Below w.heap.size w v → Calls Tryz.prog 19 #[.agg #[.int .i64 (Ak.cat cs (T.getD k Ch.tnz).ag).len, .slice (Ak.cat cs (T.getD k Ch.tnz).ag).K (Ak.cat cs (T.getD k Ch.tnz).ag).cuts.length (Ak.cat cs (T.getD k Ch.tnz).ag).ck, .slice (Ak.cat cs (T.getD k Ch.tnz).ag).Z (Ak.cat cs (T.getD k Ch.tnz).ag).dens.length (Ak.cat cs (T.getD k Ch.tnz).ag).cz], .agg #[.int .i64 (T.getD k Ch.tnz).a, .int .i64 (T.getD k Ch.tnz).b], .agg #[.int .i64 (T.getD k Ch.tnz).x, .int .i64 (T.getD k Ch.tnz).y]] v fun e w' => e = .returned (.tuple #[.agg #[.int .i64 (Ak.vS (Ak.dAt D (T.getD k Ch.tnz).ag) (T.getD k Ch.tnz).a (T.getD k Ch.tnz).b (T.getD k Ch.tnz).x (T.getD k Ch.tnz).y).1, .int .i64 (Ak.vS (Ak.dAt D (T.getD k Ch.tnz).ag) (T.getD k Ch.tnz).a (T.getD k Ch.tnz).b (T.getD k Ch.tnz).x (T.getD k Ch.tnz).y).2.1], .int .i64 0]) ∧ Below v.heap.size v w' := fun k hk v hb => by
    have h1 := tp k hk
    have hag := h1.ag
    have h2 := hcc (T.getD k Ch.tnz).ag (by omega)
    obtain ⟨hck, hl1⟩ := Ch.ck_at hc hag
    rw [hlen] at hl1
    have hz := h1.vz
    have hp1 := h1.p1
    have hp2 := h1.p2
    rw [← hl1] at hp1 hp2
    have he : Ak.vS (Ak.dAt D (T.getD k Ch.tnz).ag) (T.getD k Ch.tnz).a (T.getD k Ch.tnz).b (T.getD k Ch.tnz).x (T.getD k Ch.tnz).y = Ck.vgo (Ak.dAt D (T.getD k Ch.tnz).ag).2.1 (Ak.dAt D (T.getD k Ch.tnz).ag).2.2 (T.getD k Ch.tnz).a (T.getD k Ch.tnz).b (T.getD k Ch.tnz).x (T.getD k Ch.tnz).y (Ak.dAt D (T.getD k Ch.tnz).ag).2.2.length := by
      unfold Ak.vS
      have := h1.le
      rw [if_pos ⟨hp1, hp2, by grind⟩]
    rw [he] at hz ⊢
    rw [h2.2] at hz hp1 hp2 hck ⊢
    have := rvalue_any (Ak.cat cs (T.getD k Ch.tnz).ag).len (Ak.cat cs (T.getD k Ch.tnz).ag).K (Ak.cat cs (T.getD k Ch.tnz).ag).cuts (Ak.cat cs (T.getD k Ch.tnz).ag).ck (Ak.cat cs (T.getD k Ch.tnz).ag).Z (Ak.cat cs (T.getD k Ch.tnz).ag).dens (Ak.cat cs (T.getD k Ch.tnz).ag).cz (T.getD k Ch.tnz).a (T.getD k Ch.tnz).b (T.getD k Ch.tnz).x (T.getD k Ch.tnz).y v ((h.all _ h2.1).keep hb) hck hp1 hp2 h1.le
    dsimp only [Ak.dat] at hz ⊢
    rw [hz] at this
    exact this
  have shr : ∀ k, k < nn → ∀ v, Below w.heap.size w v → Calls Tryz.prog 20 #[.agg #[.slice A nn ca, .slice none 0 0], .int .i64 ((T.getD k Ch.tnz).ag : Nat)] v fun e w' => e = .returned (.agg #[.int .i64 (Ch.sh n (Ak.dAt D (T.getD k Ch.tnz).ag)).1, .int .i64 (Ch.sh n (Ak.dAt D (T.getD k Ch.tnz).ag)).2.1]) ∧ Below v.heap.size v w' := fun k hk v hb => by
    have := rshare_any A ca cs none 0 0 (T.getD k Ch.tnz).ag n v (h.keep hb) (by rw [hD]; exact hc) (by have := (tp k hk).ag; omega) (by omega)
    rw [hD, hnn] at this
    exact this
  obtain ⟨cb, co, hA, hcl⟩ := h.at_
  obtain rfl := hA (by omega)
  have hc0 : (Ak.cat cs 0).len = len := by
    rw [← hlen, (hcc 0 (by omega)).2]
    rfl
  rw [hT] at run
  rw [hnn] at ft run hcl ⊢
  have FT := Lib.hid ft
  have RUN := Lib.hid run
  have HTK := Lib.hid hTk
  have HTL := Lib.hid hTl
  have TP := Lib.hid tp
  have TNN := Lib.hid tn
  have TLL := Lib.hid tl
  have HPT := Lib.hid hpt
  have HLE := Lib.hid hle
  have VAL := Lib.hid val
  have SHR := Lib.hid shr
  have CKC := Lib.hid hcl
  have HC0 := Lib.hid hc0
  have HS0 := Lib.hid hs0
  have HDL := Lib.hid hDl
  rw [hDl] at hn6 hn1
  clear ft hft run hT hTk hTl inv gds hD hnn hs0 hs0' hDl hgd hc hn hlen tp tn tl hpt hle val shr hcl hc0 hcc h hA
  go_enter Tryz.func5, Tryz.ntmps5
  go_wp2_with fail
  refine FT.out.mono ?_
  rintro e w1 ⟨rfl, hb⟩
  have hbb := hb
  clear hb FT
  go_wp2_with fail
  refine (RUN.out _ hbb).mono ?_
  rintro e w2 ⟨Pp, tv, Q, nq, cq, G, rfl, hb, hrow, hpp, hpg, -, -⟩
  obtain ⟨g, cap, rfl, -, -⟩ := World.ownsRow.form hrow (by omega)
  have hts := isTs_row hrow HTL.out.symm
  obtain ⟨tb, tq, hta, htc⟩ := hts
  have hta2 := hta (by rw [HTL.out]; omega)
  simp only [Option.some.injEq, Addr.mk.injEq] at hta2
  obtain ⟨rfl, rfl, -⟩ := hta2
  have HTC := Lib.hid htc
  have HPP := Lib.hid hpp
  have HPG := Lib.hid hpg
  clear hta htc hrow RUN hpp hpg
  replace hbb := keepB hbb hb
  clear hb
  have hw2 := hbb.size
  go_upto_region 4 with fail
  refine at_worldQ (fun v => Below w2.heap.size w2 v ∧ BK v w2.heap.size [.slice (some ⟨Pp, 0, none⟩) nn nn]) ⟨below_al (Below.refl _ _) _, BK.new _ _ _⟩ (fun V3 hS => ?_)
  obtain ⟨hb2, B3⟩ := hS
  have d0 := B3.c 0 rfl
  have n0 : (nn : Int) = (nn : Int) := rfl
  go_wp2_with fail
  refine (rOf_any _ _).mono ?_
  rintro e w3 ⟨rfl, hb⟩
  replace hb2 := keepB hb2 hb
  replace B3 := B3.keep hb
  clear hb d0 n0
  have hmk := bool_make nn (by omega)
  go_upto_region 8 with fail
  clear hmk
  refine at_worldQ (fun v => Below w2.heap.size w2 v ∧ BK v w2.heap.size [.slice (some ⟨Pp, 0, none⟩) nn nn] ∧ BK v w3.heap.size [.int .i64 0, .int .i64 1] ∧ BK v (w3.heap.size + 1) (Ch.hadv T nn 0)) ⟨below_al (below_al hb2 _) _, (B3.al _).al _, (BK.new w3 _ _).al _, (by have b := bk_had (w3.alloc (.cells #[.int .i64 0, .int .i64 1] 44)) T nn; simpa only [World.size_alloc] using b)⟩ (fun V4 hS => ?_)
  have hw3 := B3.lt
  clear hb2 B3
  obtain ⟨hb2, B3, B7, B8⟩ := hS
  obtain ⟨p7, hp7⟩ : ∃ z, w3.heap.size = z := ⟨_, rfl⟩
  obtain ⟨g8, hg8⟩ : ∃ z, w3.heap.size + 1 = z := ⟨_, rfl⟩
  rw [hg8] at B8 ⊢
  rw [hp7] at B7 hw3 hg8 ⊢
  clear hp7
  go_wp2_with fail
  go_loopw [9] (fun i v => ∃ (j : Nat) (qa qb : Int), j ≤ nn ∧ i = .int .i64 (j : Nat) ∧ (qa = (Ch.sts D n len s0 j).a ∧ qb = (Ch.sts D n len s0 j).b) ∧ Below w2.heap.size w2 v ∧ BK v w2.heap.size [.slice (some ⟨Pp, 0, none⟩) nn nn] ∧ BK v p7 [.int .i64 qa, .int .i64 qb] ∧ BK v g8 (Ch.hadv T nn j)) (fun i _ => nn - (intOf i).toNat)
  case atStart => exact ⟨0, 0, 1, Nat.zero_le _, rfl, by rw [HS0.out]; exact ⟨rfl, rfl⟩, hb2, B3, B7, B8⟩
  case round =>
    clear hb2 B3 B7 B8
    obtain ⟨j, qa, qb, hjk, rfl, hq, bb, B3, B7, B8⟩ := hrel
    obtain ⟨w4, hw4⟩ : ∃ w4 : World, w4 = wr := ⟨_, rfl⟩
    subst hw4
    by_cases hlt : j < nn
    · have i1 : (j : Int) < (nn : Int) := by omega
      have ij0 : (0 : Int) ≤ (j : Int) := by omega
      have htp := TP.out j hlt
      have htl := TLL.out j hlt
      have hno : ((T.take j).any fun t => t.ag == (T.getD j Ch.tnz).ag) = false := Ch.hadv_no (TNN.out j hlt) (by rw [HTL.out]; omega)
      have hset := Ch.hadv_set T (nn := nn) (j := j) (by rw [HTL.out]; exact hlt)
      obtain ⟨y0, y1, y2, y3, y4, y5⟩ := HTC.out j (by rw [HTL.out]; exact hlt)
      have htk := HTK.out j hlt
      have hpt := HPT.out j
      rw [← htk] at hpt
      have hqt : qa = (T.getD j Ch.tnz).a ∧ qb = (T.getD j Ch.tnz).b := by rw [htk]; exact hq
      have val := VAL.out j hlt
      have shr := SHR.out j hlt
      have ckc := CKC.out (T.getD j Ch.tnz).ag (by have := htp.ag; rw [HDL.out] at this; exact this)
      have hvs := htp.vs
      have hag := htp.ag
      have htr := htp.tr
      rw [HDL.out] at hag htr hvs
      clear htp htk hq
      generalize T.getD j Ch.tnz = tn at *
      obtain ⟨ag, ta, tb, tx, ty, tt⟩ := tn
      dsimp only at *
      obtain ⟨rfl, rfl⟩ := hqt
      have pgk := HPG.out _ _ htl
      dsimp only at pgk
      have hpc := HPP.out.c ag (Ch.pcs_at hag htl)
      obtain ⟨⟨v1, v2, v3⟩, hv⟩ : ∃ z, Ak.vS (Ak.dAt D ag) qa qb tx ty = z := ⟨_, rfl⟩
      rw [hv] at val hvs
      obtain ⟨⟨h1, h2, h3⟩, hh⟩ : ∃ z, Ch.sh n (Ak.dAt D ag) = z := ⟨_, rfl⟩
      rw [hh] at shr hvs
      dsimp only at val shr hvs
      have VALJ := Lib.hid val
      have SHJ := Lib.hid shr
      have HVS := Lib.hid hvs
      have HSET := Lib.hid hset
      have HPTJ := Lib.hid hpt
      have had := Ch.hadv_at T (j := j) hag
      rw [hno] at had
      clear val shr hvs hset hpt hno htl hv hh
      have y0' := keepC bb y0
      have y1' := keepC bb y1
      have y2' := keepC bb y2
      have y3' := keepC bb y3
      have y4' := keepC bb y4
      have y5' := keepC bb y5
      clear y0 y1 y2 y3 y4 y5
      simp only [Nat.zero_add, Nat.add_zero] at y0' y1' y2' y3' y4' y5'
      have hp7l := B7.lt
      have hg8l := B8.lt
      have hsz4 := bb.size
      go_upto_region 12 with fail
      refine at_worldQ (fun v => Below w2.heap.size w2 v ∧ BK v w2.heap.size [.slice (some ⟨Pp, 0, none⟩) nn nn] ∧ BK v p7 [.int .i64 qa, .int .i64 qb] ∧ BK v g8 (Ch.hadv T nn j) ∧ BK v w4.heap.size [.int .i64 (ag : Nat), .int .i64 qa, .int .i64 qb, .int .i64 tx, .int .i64 ty, .int .i64 (tt : Nat)]) ⟨below_al bb _, B3.al _, B7.al _, B8.al _, BK.new _ _ _⟩ (fun V5 hS => ?_)
      clear bb B3 B7 B8 y0' y1' y2' y3' y4' y5'
      obtain ⟨bb, B3, B7, B8, BX⟩ := hS
      obtain ⟨p10, hp10⟩ : ∃ z, w4.heap.size = z := ⟨_, rfl⟩
      rw [hp10] at BX hp7l hg8l hsz4 ⊢
      clear hp10
      have x0 := BX.c 0 rfl
      have x1 := BX.c 1 rfl
      have x2 := BX.c 2 rfl
      have x3 := BX.c 3 rfl
      have x4 := BX.c 4 rfl
      have x5 := BX.c 5 rfl
      have at0 := B7.c 0 rfl
      have at1 := B7.c 1 rfl
      have hd := B8.c ag had
      have pp := B3.c 0 rfl
      have pg := keepC bb hpc
      have g0 := keepC bb (pgk.c 0 rfl)
      have g1 := keepC bb (pgk.c 1 rfl)
      have g2 := keepC bb (pgk.c 2 rfl)
      have g3 := keepC bb (pgk.c 3 rfl)
      have a1 : (ag : Int) < (nn : Int) := by omega
      have a0 : (0 : Int) ≤ (ag : Int) := by omega
      have k1 : (-9223372036854775808 : Int) ≤ (nn : Int) - 1 ∧ (nn : Int) - 1 ≤ 9223372036854775807 := by omega
      have k2 : (-9223372036854775808 : Int) ≤ (nn : Int) - 1 - (j : Int) ∧ (nn : Int) - 1 - (j : Int) ≤ 9223372036854775807 := by omega
      have z1 : IntKind.i64.wrap ((nn : Int) - 1) = (nn : Int) - 1 := IntWalk.i64_in _ k1
      have z2 : IntKind.i64.wrap ((nn : Int) - 1 - (j : Int)) = (nn : Int) - 1 - (j : Int) := IntWalk.i64_in _ k2
      clear k1 k2
      go_cut [118] (fun t v => t = .bool false ∧ Below V5.heap.size V5 v)
      case first =>
        refine wp_region_held_drew (S := (Below V5.heap.size V5)) (by kernel_rfl) ((Below.refl _ _).drew) (fun hHeld => ?_)
        refine at_anyH (Below V5.heap.size V5) hHeld (fun we0 hNew => ?_)
        clear hHeld
        have hHeld := hNew
        clear hNew
        refine tkn 0 ?ve1 rfl ?hye1 hHeld ?reste1
        case hye1 => (intro w hSw; go_simp; first | done | (with_reducible rfl))
        try simp only [PPz]
        refine tkn 1 ?ve2 rfl ?hye2 hHeld ?reste2
        case hye2 => (intro w hSw; have kx0 := keepC hSw x0; have kx1 := keepC hSw x1; have kx2 := keepC hSw x2; have kx3 := keepC hSw x3; have kx4 := keepC hSw x4; have kx5 := keepC hSw x5; have kat0 := keepC hSw at0; have kat1 := keepC hSw at1; have khd := keepC hSw hd; have kpp := keepC hSw pp; have kpg := keepC hSw pg; have kg0 := keepC hSw g0; have kg1 := keepC hSw g1; have kg2 := keepC hSw g2; have kg3 := keepC hSw g3; go_simp; first | done | (with_reducible rfl))
        try simp only [PPz]
        refine tkn 2 (.bool false) rfl ?_ hHeld ?_
        · intro w hSw
          go_simp
          first | done | omega
        try simp only [PPz]
        refine tkn 3 ?ve4 rfl ?hye4 hHeld ?reste4
        case hye4 => (intro w hSw; go_simp; first | done | (with_reducible rfl))
        try simp only [PPz]
        refine tkn 4 ?ve5 rfl ?hye5 hHeld ?reste5
        case hye5 => (intro w hSw; go_simp; first | done | (with_reducible rfl))
        try simp only [PPz]
        refine tkn 5 ?ve6 rfl ?hye6 hHeld ?reste6
        case hye6 => (intro w hSw; have kx0 := keepC hSw x0; have kx1 := keepC hSw x1; have kx2 := keepC hSw x2; have kx3 := keepC hSw x3; have kx4 := keepC hSw x4; have kx5 := keepC hSw x5; have kat0 := keepC hSw at0; have kat1 := keepC hSw at1; have khd := keepC hSw hd; have kpp := keepC hSw pp; have kpg := keepC hSw pg; have kg0 := keepC hSw g0; have kg1 := keepC hSw g1; have kg2 := keepC hSw g2; have kg3 := keepC hSw g3; go_simp; first | done | (with_reducible rfl))
        try simp only [PPz]
        refine tkn 6 ?ve7 rfl ?hye7 hHeld ?reste7
        case hye7 => (intro w hSw; go_simp; first | done | (with_reducible rfl))
        try simp only [PPz]
        refine tkn 7 ?ve8 rfl ?hye8 hHeld ?reste8
        case hye8 => (intro w hSw; go_simp; first | done | (with_reducible rfl))
        try simp only [PPz]
        refine tkn 8 (.bool false) rfl ?_ hHeld ?_
        · intro w hSw
          go_simp
          first | done | omega
        try simp only [PPz]
        refine tkn 9 ?ve10 rfl ?hye10 hHeld ?reste10
        case hye10 => (intro w hSw; go_simp; first | done | (with_reducible rfl))
        try simp only [PPz]
        refine tkn 10 ?ve11 rfl ?hye11 hHeld ?reste11
        case hye11 => (intro w hSw; go_simp; first | done | (with_reducible rfl))
        try simp only [PPz]
        refine tkn 11 ?ve12 rfl ?hye12 hHeld ?reste12
        case hye12 => (intro w hSw; go_simp; first | done | (with_reducible rfl))
        try simp only [PPz]
        refine tkn 12 ?ve13 rfl ?hye13 hHeld ?reste13
        case hye13 => (intro w hSw; go_simp; first | done | (with_reducible rfl))
        try simp only [PPz]
        refine tkn 13 ?ve14 rfl ?hye14 hHeld ?reste14
        case hye14 => (intro w hSw; have kx0 := keepC hSw x0; have kx1 := keepC hSw x1; have kx2 := keepC hSw x2; have kx3 := keepC hSw x3; have kx4 := keepC hSw x4; have kx5 := keepC hSw x5; have kat0 := keepC hSw at0; have kat1 := keepC hSw at1; have khd := keepC hSw hd; have kpp := keepC hSw pp; have kpg := keepC hSw pg; have kg0 := keepC hSw g0; have kg1 := keepC hSw g1; have kg2 := keepC hSw g2; have kg3 := keepC hSw g3; go_simp; first | done | (with_reducible rfl))
        try simp only [PPz]
        refine tkn 14 ?ve15 rfl ?hye15 hHeld ?reste15
        case hye15 => (intro w hSw; go_simp; first | done | (with_reducible rfl))
        try simp only [PPz]
        refine tkn 15 ?ve16 rfl ?hye16 hHeld ?reste16
        case hye16 => (intro w hSw; have kx0 := keepC hSw x0; have kx1 := keepC hSw x1; have kx2 := keepC hSw x2; have kx3 := keepC hSw x3; have kx4 := keepC hSw x4; have kx5 := keepC hSw x5; have kat0 := keepC hSw at0; have kat1 := keepC hSw at1; have khd := keepC hSw hd; have kpp := keepC hSw pp; have kpg := keepC hSw pg; have kg0 := keepC hSw g0; have kg1 := keepC hSw g1; have kg2 := keepC hSw g2; have kg3 := keepC hSw g3; go_simp; first | done | (with_reducible rfl))
        try simp only [PPz]
        refine tkn 16 ?ve17 rfl ?hye17 hHeld ?reste17
        case hye17 => (intro w hSw; go_simp; first | done | (with_reducible rfl))
        try simp only [PPz]
        refine tkn 17 ?ve18 rfl ?hye18 hHeld ?reste18
        case hye18 => (intro w hSw; go_simp; first | done | (with_reducible rfl))
        try simp only [PPz]
        refine tkn 18 ?ve19 rfl ?hye19 hHeld ?reste19
        case hye19 => (intro w hSw; go_simp; first | done | (with_reducible rfl))
        try simp only [PPz]
        refine tkn 19 ?ve20 rfl ?hye20 hHeld ?reste20
        case hye20 => (intro w hSw; have kx0 := keepC hSw x0; have kx1 := keepC hSw x1; have kx2 := keepC hSw x2; have kx3 := keepC hSw x3; have kx4 := keepC hSw x4; have kx5 := keepC hSw x5; have kat0 := keepC hSw at0; have kat1 := keepC hSw at1; have khd := keepC hSw hd; have kpp := keepC hSw pp; have kpg := keepC hSw pg; have kg0 := keepC hSw g0; have kg1 := keepC hSw g1; have kg2 := keepC hSw g2; have kg3 := keepC hSw g3; go_simp; first | done | (with_reducible rfl))
        try simp only [PPz]
        refine tkn 20 ?ve21 rfl ?hye21 hHeld ?reste21
        case hye21 => (intro w hSw; have kx0 := keepC hSw x0; have kx1 := keepC hSw x1; have kx2 := keepC hSw x2; have kx3 := keepC hSw x3; have kx4 := keepC hSw x4; have kx5 := keepC hSw x5; have kat0 := keepC hSw at0; have kat1 := keepC hSw at1; have khd := keepC hSw hd; have kpp := keepC hSw pp; have kpg := keepC hSw pg; have kg0 := keepC hSw g0; have kg1 := keepC hSw g1; have kg2 := keepC hSw g2; have kg3 := keepC hSw g3; go_simp; first | done | (with_reducible rfl))
        try simp only [PPz]
        refine tkn 21 ?ve22 rfl ?hye22 hHeld ?reste22
        case hye22 => (intro w hSw; go_simp; first | done | (with_reducible rfl))
        try simp only [PPz]
        refine tkn 22 ?ve23 rfl ?hye23 hHeld ?reste23
        case hye23 => (intro w hSw; go_simp; first | done | (with_reducible rfl))
        try simp only [PPz]
        refine tkn 23 ?ve24 rfl ?hye24 hHeld ?reste24
        case hye24 => (intro w hSw; go_simp; first | done | (with_reducible rfl))
        try simp only [PPz]
        refine tkn 24 ?ve25 rfl ?hye25 hHeld ?reste25
        case hye25 => (intro w hSw; go_simp; first | done | (with_reducible rfl))
        try simp only [PPz]
        refine tkn 25 ?ve26 rfl ?hye26 hHeld ?reste26
        case hye26 => (intro w hSw; have kx0 := keepC hSw x0; have kx1 := keepC hSw x1; have kx2 := keepC hSw x2; have kx3 := keepC hSw x3; have kx4 := keepC hSw x4; have kx5 := keepC hSw x5; have kat0 := keepC hSw at0; have kat1 := keepC hSw at1; have khd := keepC hSw hd; have kpp := keepC hSw pp; have kpg := keepC hSw pg; have kg0 := keepC hSw g0; have kg1 := keepC hSw g1; have kg2 := keepC hSw g2; have kg3 := keepC hSw g3; go_simp; first | done | (with_reducible rfl))
        try simp only [PPz]
        refine tkn 26 (.bool false) rfl ?_ hHeld ?_
        · intro w hSw
          go_simp
          first | done | omega
        try simp only [PPz]
        refine tkn 27 ?ve28 rfl ?hye28 hHeld ?reste28
        case hye28 => (intro w hSw; go_simp; first | done | (with_reducible rfl))
        try simp only [PPz]
        refine tkn 28 ?ve29 rfl ?hye29 hHeld ?reste29
        case hye29 => (intro w hSw; go_simp; first | done | (with_reducible rfl))
        try simp only [PPz]
        refine tkn 29 ?ve30 rfl ?hye30 hHeld ?reste30
        case hye30 => (intro w hSw; go_simp; first | done | (with_reducible rfl))
        try simp only [PPz]
        refine tkn 30 ?ve31 rfl ?hye31 hHeld ?reste31
        case hye31 => (intro w hSw; have kx0 := keepC hSw x0; have kx1 := keepC hSw x1; have kx2 := keepC hSw x2; have kx3 := keepC hSw x3; have kx4 := keepC hSw x4; have kx5 := keepC hSw x5; have kat0 := keepC hSw at0; have kat1 := keepC hSw at1; have khd := keepC hSw hd; have kpp := keepC hSw pp; have kpg := keepC hSw pg; have kg0 := keepC hSw g0; have kg1 := keepC hSw g1; have kg2 := keepC hSw g2; have kg3 := keepC hSw g3; go_simp; first | done | (with_reducible rfl))
        try simp only [PPz]
        refine tkn 31 ?ve32 rfl ?hye32 hHeld ?reste32
        case hye32 => (intro w hSw; go_simp; first | done | (with_reducible rfl))
        try simp only [PPz]
        refine tkn 32 ?ve33 rfl ?hye33 hHeld ?reste33
        case hye33 => (intro w hSw; go_simp; first | done | (with_reducible rfl))
        try simp only [PPz]
        refine tkn 33 ?ve34 rfl ?hye34 hHeld ?reste34
        case hye34 => (intro w hSw; go_simp; first | done | (with_reducible rfl))
        try simp only [PPz]
        refine tkn 34 ?ve35 rfl ?hye35 hHeld ?reste35
        case hye35 => (intro w hSw; go_simp; first | done | (with_reducible rfl))
        try simp only [PPz]
        refine tkn 35 ?ve36 rfl ?hye36 hHeld ?reste36
        case hye36 => (intro w hSw; go_simp; first | done | (with_reducible rfl))
        try simp only [PPz]
        refine tkn 36 (.bool false) rfl ?_ hHeld ?_
        · intro w hSw
          go_simp
          first | done | omega
        try simp only [PPz]
        refine tkn 37 ?ve38 rfl ?hye38 hHeld ?reste38
        case hye38 => (intro w hSw; go_simp; first | done | (with_reducible rfl))
        try simp only [PPz]
        refine tkn 38 ?ve39 rfl ?hye39 hHeld ?reste39
        case hye39 => (intro w hSw; go_simp; first | done | (with_reducible rfl))
        try simp only [PPz]
        refine tkn 39 ?ve40 rfl ?hye40 hHeld ?reste40
        case hye40 => (intro w hSw; go_simp; first | done | (with_reducible rfl))
        try simp only [PPz]
        refine tkn 40 ?ve41 rfl ?hye41 hHeld ?reste41
        case hye41 => (intro w hSw; have kx0 := keepC hSw x0; have kx1 := keepC hSw x1; have kx2 := keepC hSw x2; have kx3 := keepC hSw x3; have kx4 := keepC hSw x4; have kx5 := keepC hSw x5; have kat0 := keepC hSw at0; have kat1 := keepC hSw at1; have khd := keepC hSw hd; have kpp := keepC hSw pp; have kpg := keepC hSw pg; have kg0 := keepC hSw g0; have kg1 := keepC hSw g1; have kg2 := keepC hSw g2; have kg3 := keepC hSw g3; go_simp; first | done | (with_reducible rfl))
        try simp only [PPz]
        refine tkn 41 ?ve42 rfl ?hye42 hHeld ?reste42
        case hye42 => (intro w hSw; go_simp; first | done | (with_reducible rfl))
        try simp only [PPz]
        refine tkn 42 ?ve43 rfl ?hye43 hHeld ?reste43
        case hye43 => (intro w hSw; have kx0 := keepC hSw x0; have kx1 := keepC hSw x1; have kx2 := keepC hSw x2; have kx3 := keepC hSw x3; have kx4 := keepC hSw x4; have kx5 := keepC hSw x5; have kat0 := keepC hSw at0; have kat1 := keepC hSw at1; have khd := keepC hSw hd; have kpp := keepC hSw pp; have kpg := keepC hSw pg; have kg0 := keepC hSw g0; have kg1 := keepC hSw g1; have kg2 := keepC hSw g2; have kg3 := keepC hSw g3; go_simp; first | done | (with_reducible rfl))
        try simp only [PPz]
        refine tkn 43 ?ve44 rfl ?hye44 hHeld ?reste44
        case hye44 => (intro w hSw; go_simp; first | done | (with_reducible rfl))
        try simp only [PPz]
        refine tkn 44 ?ve45 rfl ?hye45 hHeld ?reste45
        case hye45 => (intro w hSw; have kx0 := keepC hSw x0; have kx1 := keepC hSw x1; have kx2 := keepC hSw x2; have kx3 := keepC hSw x3; have kx4 := keepC hSw x4; have kx5 := keepC hSw x5; have kat0 := keepC hSw at0; have kat1 := keepC hSw at1; have khd := keepC hSw hd; have kpp := keepC hSw pp; have kpg := keepC hSw pg; have kg0 := keepC hSw g0; have kg1 := keepC hSw g1; have kg2 := keepC hSw g2; have kg3 := keepC hSw g3; go_simp; first | done | (with_reducible rfl))
        try simp only [PPz]
        refine tkn 45 ?ve46 rfl ?hye46 hHeld ?reste46
        case hye46 => (intro w hSw; go_simp; first | done | (with_reducible rfl))
        try simp only [PPz]
        refine tkn 46 ?ve47 rfl ?hye47 hHeld ?reste47
        case hye47 => (intro w hSw; go_simp; first | done | (with_reducible rfl))
        try simp only [PPz]
        refine tkn 47 ?ve48 rfl ?hye48 hHeld ?reste48
        case hye48 => (intro w hSw; go_simp; first | done | (with_reducible rfl))
        try simp only [PPz]
        refine tkn 48 ?ve49 rfl ?hye49 hHeld ?reste49
        case hye49 => (intro w hSw; go_simp; first | done | (with_reducible rfl))
        try simp only [PPz]
        refine tkn 49 ?ve50 rfl ?hye50 hHeld ?reste50
        case hye50 => (intro w hSw; go_simp; first | done | (with_reducible rfl))
        try simp only [PPz]
        refine tkn 50 ?ve51 rfl ?hye51 hHeld ?reste51
        case hye51 => (intro w hSw; have kx0 := keepC hSw x0; have kx1 := keepC hSw x1; have kx2 := keepC hSw x2; have kx3 := keepC hSw x3; have kx4 := keepC hSw x4; have kx5 := keepC hSw x5; have kat0 := keepC hSw at0; have kat1 := keepC hSw at1; have khd := keepC hSw hd; have kpp := keepC hSw pp; have kpg := keepC hSw pg; have kg0 := keepC hSw g0; have kg1 := keepC hSw g1; have kg2 := keepC hSw g2; have kg3 := keepC hSw g3; go_simp; first | done | (with_reducible rfl))
        try simp only [PPz]
        refine tkn 51 ?ve52 rfl ?hye52 hHeld ?reste52
        case hye52 => (intro w hSw; go_simp; first | done | (with_reducible rfl))
        try simp only [PPz]
        refine tkn 52 ?ve53 rfl ?hye53 hHeld ?reste53
        case hye53 => (intro w hSw; have kx0 := keepC hSw x0; have kx1 := keepC hSw x1; have kx2 := keepC hSw x2; have kx3 := keepC hSw x3; have kx4 := keepC hSw x4; have kx5 := keepC hSw x5; have kat0 := keepC hSw at0; have kat1 := keepC hSw at1; have khd := keepC hSw hd; have kpp := keepC hSw pp; have kpg := keepC hSw pg; have kg0 := keepC hSw g0; have kg1 := keepC hSw g1; have kg2 := keepC hSw g2; have kg3 := keepC hSw g3; go_simp; first | done | (with_reducible rfl))
        try simp only [PPz]
        refine tkn 53 ?ve54 rfl ?hye54 hHeld ?reste54
        case hye54 => (intro w hSw; go_simp; first | done | (with_reducible rfl))
        try simp only [PPz]
        refine tkn 54 ?ve55 rfl ?hye55 hHeld ?reste55
        case hye55 => (intro w hSw; have kx0 := keepC hSw x0; have kx1 := keepC hSw x1; have kx2 := keepC hSw x2; have kx3 := keepC hSw x3; have kx4 := keepC hSw x4; have kx5 := keepC hSw x5; have kat0 := keepC hSw at0; have kat1 := keepC hSw at1; have khd := keepC hSw hd; have kpp := keepC hSw pp; have kpg := keepC hSw pg; have kg0 := keepC hSw g0; have kg1 := keepC hSw g1; have kg2 := keepC hSw g2; have kg3 := keepC hSw g3; go_simp; first | done | (with_reducible rfl))
        try simp only [PPz]
        refine tkn 55 ?ve56 rfl ?hye56 hHeld ?reste56
        case hye56 => (intro w hSw; go_simp; first | done | (with_reducible rfl))
        try simp only [PPz]
        refine tkn 56 ?ve57 rfl ?hye57 hHeld ?reste57
        case hye57 => (intro w hSw; have kx0 := keepC hSw x0; have kx1 := keepC hSw x1; have kx2 := keepC hSw x2; have kx3 := keepC hSw x3; have kx4 := keepC hSw x4; have kx5 := keepC hSw x5; have kat0 := keepC hSw at0; have kat1 := keepC hSw at1; have khd := keepC hSw hd; have kpp := keepC hSw pp; have kpg := keepC hSw pg; have kg0 := keepC hSw g0; have kg1 := keepC hSw g1; have kg2 := keepC hSw g2; have kg3 := keepC hSw g3; go_simp; first | done | (with_reducible rfl))
        try simp only [PPz]
        refine tkn 57 ?ve58 rfl ?hye58 hHeld ?reste58
        case hye58 => (intro w hSw; go_simp; first | done | (with_reducible rfl))
        try simp only [PPz]
        refine tkn 58 ?ve59 rfl ?hye59 hHeld ?reste59
        case hye59 => (intro w hSw; have kx0 := keepC hSw x0; have kx1 := keepC hSw x1; have kx2 := keepC hSw x2; have kx3 := keepC hSw x3; have kx4 := keepC hSw x4; have kx5 := keepC hSw x5; have kat0 := keepC hSw at0; have kat1 := keepC hSw at1; have khd := keepC hSw hd; have kpp := keepC hSw pp; have kpg := keepC hSw pg; have kg0 := keepC hSw g0; have kg1 := keepC hSw g1; have kg2 := keepC hSw g2; have kg3 := keepC hSw g3; go_simp; first | done | (with_reducible rfl))
        try simp only [PPz]
        refine tkn 59 ?ve60 rfl ?hye60 hHeld ?reste60
        case hye60 => (intro w hSw; go_simp; first | done | (with_reducible rfl))
        try simp only [PPz]
        refine tkn 60 ?ve61 rfl ?hye61 hHeld ?reste61
        case hye61 => (intro w hSw; have kx0 := keepC hSw x0; have kx1 := keepC hSw x1; have kx2 := keepC hSw x2; have kx3 := keepC hSw x3; have kx4 := keepC hSw x4; have kx5 := keepC hSw x5; have kat0 := keepC hSw at0; have kat1 := keepC hSw at1; have khd := keepC hSw hd; have kpp := keepC hSw pp; have kpg := keepC hSw pg; have kg0 := keepC hSw g0; have kg1 := keepC hSw g1; have kg2 := keepC hSw g2; have kg3 := keepC hSw g3; go_simp; first | done | (with_reducible rfl))
        try simp only [PPz]
        refine tkn 61 ?ve62 rfl ?hye62 hHeld ?reste62
        case hye62 => (intro w hSw; go_simp; first | done | (with_reducible rfl))
        try simp only [PPz]
        refine tkn 62 ?ve63 rfl ?hye63 hHeld ?reste63
        case hye63 => (intro w hSw; go_simp; first | done | (with_reducible rfl))
        try simp only [PPz]
        refine tkn 63 ?ve64 rfl ?hye64 hHeld ?reste64
        case hye64 => (intro w hSw; go_simp; first | done | (with_reducible rfl))
        try simp only [PPz]
        refine wpAnyH_done (by kernel_rfl) ?_ _
        go_wp2_with fail
        go_meet
        exact ⟨rfl, hHeld⟩
      case rest =>
      obtain ⟨rfl, hHeld⟩ := hcut
      go_upto_region 14 with fail
      replace bb := keepB bb hHeld
      replace B3 := B3.keep hHeld
      replace B7 := B7.keep hHeld
      replace B8 := B8.keep hHeld
      replace BX := BX.keep hHeld
      clear hHeld x0 x1 x2 x3 x4 x5 at0 at1 hd pp pg g0 g1 g2 g3 z1 z2
      have x0 := BX.c 0 rfl
      have hd := B8.c ag had
      have hf := B8.f ag had
      go_upto_region 15 with fail
      refine at_worldQ (fun v => Below w2.heap.size w2 v ∧ BK v w2.heap.size [.slice (some ⟨Pp, 0, none⟩) nn nn] ∧ BK v p7 [.int .i64 qa, .int .i64 qb] ∧ BK v g8 (Ch.hadv T nn (j + 1)) ∧ BK v p10 [.int .i64 (ag : Nat), .int .i64 qa, .int .i64 qb, .int .i64 tx, .int .i64 ty, .int .i64 (tt : Nat)]) ⟨below_set bb (by omega) _, B3.far (by omega) _ _, B7.far (by omega) _ _, (by have b := B8.set ag (.bool true); rw [HSET.out] at b; exact b), BX.far (by omega) _ _⟩ (fun V6 hS => ?_)
      clear bb B3 B7 B8 BX x0 hd hf had HSET
      obtain ⟨bb, B3, B7, B8, BX⟩ := hS
      have bbw := hbb.trans (bb.mono hw2)
      have x0 := BX.c 0 rfl
      have x1 := BX.c 1 rfl
      have x2 := BX.c 2 rfl
      have x3 := BX.c 3 rfl
      have x4 := BX.c 4 rfl
      obtain ⟨ck0, ck1, ck2⟩ := ckc
      have k0 := keepC bbw ck0
      have k1 := keepC bbw ck1
      have k2 := keepC bbw ck2
      clear ck0 ck1 ck2
      generalize Ak.cat cs ag = cc at *
      obtain ⟨clen, cK, ccuts, cck, cZ, cdens, ccz⟩ := cc
      dsimp only at k0 k1 k2 VALJ
      obtain ⟨lk, hlk⟩ : ∃ z, ccuts.length = z := ⟨_, rfl⟩
      obtain ⟨lz, hlz⟩ : ∃ z, cdens.length = z := ⟨_, rfl⟩
      rw [hlk] at k1
      rw [hlz] at k2
      rw [hlk, hlz] at VALJ
      clear hlk hlz
      go_cut [11, 12] (fun p e v => ∃ pv : Nat, p = .pointer (some ⟨pv, 0, none⟩) ∧ e = .int .i64 0 ∧ Below V6.heap.size V6 v ∧ BK v pv [.int .i64 v1, .int .i64 v2])
      case first =>
        refine wp_region_held_drew (S := (Below V6.heap.size V6)) (by kernel_rfl) ((Below.refl _ _).drew) (fun hHeld => ?_)
        refine at_anyH (Below V6.heap.size V6) hHeld (fun wf0 hNew => ?_)
        clear hHeld
        have hHeld := hNew
        clear hNew
        refine tkn 0 ?vf1 rfl ?hyf1 hHeld ?restf1
        case hyf1 => (intro w hSw; go_simp; first | done | (with_reducible rfl))
        try simp only [PPz]
        refine tkn 1 ?vf2 rfl ?hyf2 hHeld ?restf2
        case hyf2 => (intro w hSw; go_simp; first | done | (with_reducible rfl))
        try simp only [PPz]
        refine tkn 2 ?vf3 rfl ?hyf3 hHeld ?restf3
        case hyf3 => (intro w hSw; have kx0 := keepC hSw x0; have kx1 := keepC hSw x1; have kx2 := keepC hSw x2; have kx3 := keepC hSw x3; have kx4 := keepC hSw x4; have kk0 := keepC hSw k0; have kk1 := keepC hSw k1; have kk2 := keepC hSw k2; go_simp; first | done | (with_reducible rfl))
        try simp only [PPz]
        refine tkn 3 ?vf4 rfl ?hyf4 hHeld ?restf4
        case hyf4 => (intro w hSw; go_simp; first | done | (with_reducible rfl))
        try simp only [PPz]
        refine tkn 4 ?vf5 rfl ?hyf5 hHeld ?restf5
        case hyf5 => (intro w hSw; have kx0 := keepC hSw x0; have kx1 := keepC hSw x1; have kx2 := keepC hSw x2; have kx3 := keepC hSw x3; have kx4 := keepC hSw x4; have kk0 := keepC hSw k0; have kk1 := keepC hSw k1; have kk2 := keepC hSw k2; go_simp; first | done | (with_reducible rfl))
        try simp only [PPz]
        refine tkn 5 ?vf6 rfl ?hyf6 hHeld ?restf6
        case hyf6 => (intro w hSw; go_simp; first | done | (with_reducible rfl))
        try simp only [PPz]
        refine tkn 6 ?vf7 rfl ?hyf7 hHeld ?restf7
        case hyf7 => (intro w hSw; have kx0 := keepC hSw x0; have kx1 := keepC hSw x1; have kx2 := keepC hSw x2; have kx3 := keepC hSw x3; have kx4 := keepC hSw x4; have kk0 := keepC hSw k0; have kk1 := keepC hSw k1; have kk2 := keepC hSw k2; go_simp; first | done | (with_reducible rfl))
        try simp only [PPz]
        refine tkn 7 ?vf8 rfl ?hyf8 hHeld ?restf8
        case hyf8 => (intro w hSw; go_simp; first | done | (with_reducible rfl))
        try simp only [PPz]
        refine tkn 8 ?vf9 rfl ?hyf9 hHeld ?restf9
        case hyf9 => (intro w hSw; have kx0 := keepC hSw x0; have kx1 := keepC hSw x1; have kx2 := keepC hSw x2; have kx3 := keepC hSw x3; have kx4 := keepC hSw x4; have kk0 := keepC hSw k0; have kk1 := keepC hSw k1; have kk2 := keepC hSw k2; go_simp; first | done | (with_reducible rfl))
        try simp only [PPz]
        refine rdy2 9 13 rfl rfl (fun K hK => ?_) (fun K hK => ?_)
        ·
          go_simp
          refine (VALJ.out _ (keepB bbw hHeld)).mono ?_
          rintro e wf10 ⟨rfl, hb3⟩
          go_wp2_with fail
          refine hK.out _ _ (keepB hHeld hb3) (fun hNew => ?_)
          clear hb3
          clear hHeld hK K
          have hHeld := hNew
          clear hNew
          try simp only [PPz]
          refine tkn 10 ?vf11 rfl ?hyf11 hHeld ?restf11
          case hyf11 => (intro w hSw; go_simp; first | done | (with_reducible rfl))
          try simp only [PPz]
          refine tkn 11 ?vf12 rfl ?hyf12 hHeld ?restf12
          case hyf12 => (intro w hSw; go_simp; first | done | (with_reducible rfl))
          try simp only [PPz]
          refine tkn 12 ?vf13 rfl ?hyf13 hHeld ?restf13
          case hyf13 => (intro w hSw; go_simp; first | done | (with_reducible rfl))
          try simp only [PPz]
          refine rdy1 13 rfl (fun K hK => ?_)
          go_simp
          refine hK.out _ _ (below_al hHeld _) (fun hNew => ?_)
          have hv : V6.heap.size ≤ wf10.heap.size := hHeld.size
          clear hHeld hK K
          have hHeld := hNew
          clear hNew
          try simp only [PPz]
          refine at_anyH (fun v => Below V6.heap.size V6 v ∧ BK v wf10.heap.size [.int .i64 0, .int .i64 0]) ⟨hHeld, BK.new _ _ _⟩ (fun wf14 hS => ?_)
          clear hHeld
          obtain ⟨hHeld, Bv⟩ := hS
          refine rdy1 14 rfl (fun K hK => ?_)
          have n0 := Bv.c 0 rfl
          have f0 := Bv.f 0 rfl
          have n1 := Bv.c 1 rfl
          have f1 := Bv.f 1 rfl
          go_simp
          clear n0 f0 n1 f1
          refine hK.out _ _ (below_set (below_set hHeld (by omega) _) (by omega) _) (fun hNew => ?_)
          clear hHeld hK K
          have hHeld := hNew
          clear hNew
          try simp only [PPz]
          refine at_anyH (fun v => Below V6.heap.size V6 v ∧ BK v wf10.heap.size [.int .i64 v1, .int .i64 v2]) ⟨hHeld, ((Bv.set 0 _).set 1 _)⟩ (fun wf15 hS => ?_)
          clear hHeld Bv
          obtain ⟨hHeld, Bv⟩ := hS
          refine tkn 15 ?vf16 rfl ?hyf16 hHeld ?restf16
          case hyf16 => (intro w hSw; go_simp; first | done | (with_reducible rfl))
          try simp only [PPz]
          refine wpAnyH_done (by kernel_rfl) ?_ _
          go_wp2_with fail
          go_meet
          exact ⟨_, rfl, rfl, hHeld, Bv⟩
        ·
          go_simp
          refine hK.out _ _ (below_al hHeld _) (fun hNew => ?_)
          have hv : V6.heap.size ≤ wf0.heap.size := hHeld.size
          clear hHeld hK K
          have hHeld := hNew
          clear hNew
          try simp only [PPz]
          refine at_anyH (fun v => Below V6.heap.size V6 v ∧ BK v wf0.heap.size [.int .i64 0, .int .i64 0]) ⟨hHeld, BK.new _ _ _⟩ (fun wf17 hS => ?_)
          clear hHeld
          obtain ⟨hHeld, Bv⟩ := hS
          refine rdy1 9 rfl (fun K hK => ?_)
          go_simp
          refine (VALJ.out _ (keepB bbw hHeld)).mono ?_
          rintro e wf18 ⟨rfl, hb3⟩
          go_wp2_with fail
          refine hK.out _ _ (keepB hHeld hb3) (fun hNew => ?_)
          replace Bv := Bv.keep hb3
          clear hb3
          clear hHeld hK K
          have hHeld := hNew
          clear hNew
          try simp only [PPz]
          refine tkn 10 ?vf19 rfl ?hyf19 hHeld ?restf19
          case hyf19 => (intro w hSw; go_simp; first | done | (with_reducible rfl))
          try simp only [PPz]
          refine tkn 11 ?vf20 rfl ?hyf20 hHeld ?restf20
          case hyf20 => (intro w hSw; go_simp; first | done | (with_reducible rfl))
          try simp only [PPz]
          refine tkn 12 ?vf21 rfl ?hyf21 hHeld ?restf21
          case hyf21 => (intro w hSw; go_simp; first | done | (with_reducible rfl))
          try simp only [PPz]
          refine rdy1 14 rfl (fun K hK => ?_)
          have n0 := Bv.c 0 rfl
          have f0 := Bv.f 0 rfl
          have n1 := Bv.c 1 rfl
          have f1 := Bv.f 1 rfl
          go_simp
          clear n0 f0 n1 f1
          refine hK.out _ _ (below_set (below_set hHeld (by omega) _) (by omega) _) (fun hNew => ?_)
          clear hHeld hK K
          have hHeld := hNew
          clear hNew
          try simp only [PPz]
          refine at_anyH (fun v => Below V6.heap.size V6 v ∧ BK v wf0.heap.size [.int .i64 v1, .int .i64 v2]) ⟨hHeld, ((Bv.set 0 _).set 1 _)⟩ (fun wf22 hS => ?_)
          clear hHeld Bv
          obtain ⟨hHeld, Bv⟩ := hS
          refine tkn 15 ?vf23 rfl ?hyf23 hHeld ?restf23
          case hyf23 => (intro w hSw; go_simp; first | done | (with_reducible rfl))
          try simp only [PPz]
          refine wpAnyH_done (by kernel_rfl) ?_ _
          go_wp2_with fail
          go_meet
          exact ⟨_, rfl, rfl, hHeld, Bv⟩
      case rest =>
        obtain ⟨pv, rfl, rfl, hb6, BV⟩ := hcut
        have hx10 := BX.lt
        replace bb := keepB bb hb6
        replace B3 := B3.keep hb6
        replace B7 := B7.keep hb6
        replace B8 := B8.keep hb6
        replace BX := BX.keep hb6
        clear hb6 x0 x1 x2 x3 x4 k0 k1 k2 bbw VALJ
        go_upto_region 16 with fail
        by_cases hl : j + 1 < nn
        · obtain ⟨rfl, rfl⟩ := HVS.out hl
          have l1 : (j : Int) + 1 < (nn : Int) := by omega
          have l2 : IntKind.i64.wrap ((j : Int) + 1) = (j : Int) + 1 := IntWalk.i64_in _ (by omega)
          have hpv := BV.lt
          refine at_worldQ (fun v => Below w2.heap.size w2 v ∧ BK v w2.heap.size [.slice (some ⟨Pp, 0, none⟩) nn nn] ∧ BK v p7 [.int .i64 qa, .int .i64 qb] ∧ BK v g8 (Ch.hadv T nn (j + 1)) ∧ BK v p10 [.int .i64 (ag : Nat), .int .i64 qa, .int .i64 qb, .int .i64 tx, .int .i64 ty, .int .i64 (tt : Nat)] ∧ BK v pv [.int .i64 v1, .int .i64 v2]) ⟨bb, B3, B7, B8, BX, BV⟩ (fun V7 hS => ?_)
          clear bb B3 B7 B8 BX BV hpv
          obtain ⟨bb, B3, B7, B8, BX, BV⟩ := hS
          have bbw := hbb.trans (bb.mono hw2)
          have u0 := BV.c 0 rfl
          have u1 := BV.c 1 rfl
          have x0 := BX.c 0 rfl
          refine wp_region_held_drew (S := (Below V7.heap.size V7)) (by kernel_rfl) ((Below.refl _ _).drew) (fun hHeld => ?_)
          refine at_anyH (Below V7.heap.size V7) hHeld (fun wg0 hNew => ?_)
          clear hHeld
          have hHeld := hNew
          clear hNew
          refine tkn 0 ?vg1 rfl ?hyg1 hHeld ?restg1
          case hyg1 => (intro w hSw; go_simp; first | done | (with_reducible rfl))
          try simp only [PPz]
          refine tkn 1 ?vg2 rfl ?hyg2 hHeld ?restg2
          case hyg2 => (intro w hSw; go_simp; first | done | (with_reducible rfl))
          try simp only [PPz]
          refine tkn 2 ?vg3 rfl ?hyg3 hHeld ?restg3
          case hyg3 => (intro w hSw; go_simp; first | done | (with_reducible rfl))
          try simp only [PPz]
          refine tkn 3 ?vg4 rfl ?hyg4 hHeld ?restg4
          case hyg4 => (intro w hSw; go_simp; first | done | (with_reducible rfl))
          try simp only [PPz]
          refine tkn 4 ?vg5 rfl ?hyg5 hHeld ?restg5
          case hyg5 => (intro w hSw; go_simp; first | done | (with_reducible rfl))
          try simp only [PPz]
          refine tkn 5 ?vg6 rfl ?hyg6 hHeld ?restg6
          case hyg6 => (intro w hSw; go_simp; first | done | (with_reducible rfl))
          try simp only [PPz]
          refine tkn 6 ?vg7 rfl ?hyg7 hHeld ?restg7
          case hyg7 => (intro w hSw; go_simp; first | done | (with_reducible rfl))
          try simp only [PPz]
          refine tkn 7 (.bool true) rfl ?_ hHeld ?_
          · intro w hSw
            go_simp
            first | done | omega
          try simp only [PPz]
          refine tkn 8 ?vg9 rfl ?hyg9 hHeld ?restg9
          case hyg9 => (intro w hSw; go_simp; first | done | (with_reducible rfl))
          try simp only [PPz]
          refine tkn 9 ?vg10 rfl ?hyg10 hHeld ?restg10
          case hyg10 => (intro w hSw; have ku0 := keepC hSw u0; have ku1 := keepC hSw u1; have kx0 := keepC hSw x0; go_simp; first | done | (with_reducible rfl))
          try simp only [PPz]
          refine tkn 10 ?vg11 rfl ?hyg11 hHeld ?restg11
          case hyg11 => (intro w hSw; go_simp; first | done | (with_reducible rfl))
          try simp only [PPz]
          refine tkn 11 ?vg12 rfl ?hyg12 hHeld ?restg12
          case hyg12 => (intro w hSw; go_simp; first | done | (with_reducible rfl))
          try simp only [PPz]
          refine tkn 12 ?vg13 rfl ?hyg13 hHeld ?restg13
          case hyg13 => (intro w hSw; go_simp; first | done | (with_reducible rfl))
          try simp only [PPz]
          refine tkn 13 ?vg14 rfl ?hyg14 hHeld ?restg14
          case hyg14 => (intro w hSw; have ku0 := keepC hSw u0; have ku1 := keepC hSw u1; have kx0 := keepC hSw x0; go_simp; first | done | (with_reducible rfl))
          try simp only [PPz]
          refine rdy1 14 rfl (fun K hK => ?_)
          go_simp
          refine (SHJ.out _ (keepB bbw hHeld)).mono ?_
          rintro e wg15 ⟨rfl, hb3⟩
          go_wp2_with fail
          refine hK.out _ _ (keepB hHeld hb3) (fun hNew => ?_)
          clear hb3
          clear hHeld hK K
          have hHeld := hNew
          clear hNew
          try simp only [PPz]
          refine tkn 15 ?vg16 rfl ?hyg16 hHeld ?restg16
          case hyg16 => (intro w hSw; go_simp; first | done | (with_reducible rfl))
          try simp only [PPz]
          refine tkn 16 ?vg17 rfl ?hyg17 hHeld ?restg17
          case hyg17 => (intro w hSw; go_simp; first | done | (with_reducible rfl))
          try simp only [PPz]
          refine tkn 17 ?vg18 rfl ?hyg18 hHeld ?restg18
          case hyg18 => (intro w hSw; go_simp; first | done | (with_reducible rfl))
          try simp only [PPz]
          refine wpAnyH_done (by kernel_rfl) ?_ _
          skip
          replace bb := keepB bb hHeld
          replace B3 := B3.keep hHeld
          replace B7 := B7.keep hHeld
          replace B8 := B8.keep hHeld
          replace BX := BX.keep hHeld
          clear hHeld u0 u1 x0 BV bbw l1 l2
          have x3 := BX.c 3 rfl
          have x4 := BX.c 4 rfl
          have q0 := B7.c 0 rfl
          have q1 := B7.c 1 rfl
          have f0 := B7.f 0 rfl
          have f1 := B7.f 1 rfl
          go_wp2_with fail
          go_roundw
          case rel => exact ⟨j + 1, tx, ty, by omega, by go_num, ⟨HPTJ.out.1.symm, HPTJ.out.2.symm⟩, below_set (below_set bb (by omega) _) (by omega) _, (B3.far (by omega) _ _).far (by omega) _ _, (B7.set 0 _).set 1 _, (B8.far (by omega) _ _).far (by omega) _ _⟩
          case measure => (simp [intOf] <;> omega)
        · have l1 : ¬ (j : Int) + 1 < (nn : Int) := by omega
          have l2 : IntKind.i64.wrap ((j : Int) + 1) = (j : Int) + 1 := IntWalk.i64_in _ (by omega)
          have hpv := BV.lt
          refine at_worldQ (fun v => Below w2.heap.size w2 v ∧ BK v w2.heap.size [.slice (some ⟨Pp, 0, none⟩) nn nn] ∧ BK v p7 [.int .i64 qa, .int .i64 qb] ∧ BK v g8 (Ch.hadv T nn (j + 1)) ∧ BK v p10 [.int .i64 (ag : Nat), .int .i64 qa, .int .i64 qb, .int .i64 tx, .int .i64 ty, .int .i64 (tt : Nat)] ∧ BK v pv [.int .i64 v1, .int .i64 v2]) ⟨bb, B3, B7, B8, BX, BV⟩ (fun V7 hS => ?_)
          clear bb B3 B7 B8 BX BV hpv
          obtain ⟨bb, B3, B7, B8, BX, BV⟩ := hS
          have bbw := hbb.trans (bb.mono hw2)
          have u0 := BV.c 0 rfl
          have u1 := BV.c 1 rfl
          have x0 := BX.c 0 rfl
          refine wp_region_noPanic ?_
          refine wp_region_held_drew (S := (Below V7.heap.size V7)) (by kernel_rfl) ((Below.refl _ _).drew) (fun hHeld => ?_)
          refine at_anyH (Below V7.heap.size V7) hHeld (fun wh0 hNew => ?_)
          clear hHeld
          have hHeld := hNew
          clear hNew
          refine tkn 0 ?vh1 rfl ?hyh1 hHeld ?resth1
          case hyh1 => (intro w hSw; go_simp; first | done | (with_reducible rfl))
          try simp only [PPz]
          refine tkn 1 ?vh2 rfl ?hyh2 hHeld ?resth2
          case hyh2 => (intro w hSw; go_simp; first | done | (with_reducible rfl))
          try simp only [PPz]
          refine tkn 2 ?vh3 rfl ?hyh3 hHeld ?resth3
          case hyh3 => (intro w hSw; go_simp; first | done | (with_reducible rfl))
          try simp only [PPz]
          refine tkn 3 ?vh4 rfl ?hyh4 hHeld ?resth4
          case hyh4 => (intro w hSw; go_simp; first | done | (with_reducible rfl))
          try simp only [PPz]
          refine tkn 4 ?vh5 rfl ?hyh5 hHeld ?resth5
          case hyh5 => (intro w hSw; go_simp; first | done | (with_reducible rfl))
          try simp only [PPz]
          refine tkn 5 ?vh6 rfl ?hyh6 hHeld ?resth6
          case hyh6 => (intro w hSw; go_simp; first | done | (with_reducible rfl))
          try simp only [PPz]
          refine tkn 6 ?vh7 rfl ?hyh7 hHeld ?resth7
          case hyh7 => (intro w hSw; go_simp; first | done | (with_reducible rfl))
          try simp only [PPz]
          refine tkn 7 (.bool false) rfl ?_ hHeld ?_
          · intro w hSw
            go_simp
            first | done | omega
          try simp only [PPz]
          refine tkn 8 ?vh9 rfl ?hyh9 hHeld ?resth9
          case hyh9 => (intro w hSw; go_simp; first | done | (with_reducible rfl))
          try simp only [PPz]
          refine tkns 9 rfl hHeld ?_
          try simp only [PPz]
          refine tkns 10 rfl hHeld ?_
          try simp only [PPz]
          refine tkns 11 rfl hHeld ?_
          try simp only [PPz]
          refine tkns 12 rfl hHeld ?_
          try simp only [PPz]
          refine tkns 13 rfl hHeld ?_
          try simp only [PPz]
          refine tkns 14 rfl hHeld ?_
          try simp only [PPz]
          refine tkns 15 rfl hHeld ?_
          try simp only [PPz]
          refine tkn 16 ?vh17 rfl ?hyh17 hHeld ?resth17
          case hyh17 => (intro w hSw; go_simp; first | done | (with_reducible rfl))
          try simp only [PPz]
          refine tkn 17 ?vh18 rfl ?hyh18 hHeld ?resth18
          case hyh18 => (intro w hSw; go_simp; first | done | (with_reducible rfl))
          try simp only [PPz]
          refine wpAnyH_done (by kernel_rfl) ?_ _
          refine NoPanic.normal ?_
          skip
          replace bb := keepB bb hHeld
          replace B3 := B3.keep hHeld
          replace B7 := B7.keep hHeld
          replace B8 := B8.keep hHeld
          replace BX := BX.keep hHeld
          clear hHeld u0 u1 x0 BV bbw l1 l2
          have x3 := BX.c 3 rfl
          have x4 := BX.c 4 rfl
          have q0 := B7.c 0 rfl
          have q1 := B7.c 1 rfl
          have f0 := B7.f 0 rfl
          have f1 := B7.f 1 rfl
          go_wp2_with fail
          go_roundw
          case rel => exact ⟨j + 1, tx, ty, by omega, by go_num, ⟨HPTJ.out.1.symm, HPTJ.out.2.symm⟩, below_set (below_set bb (by omega) _) (by omega) _, (B3.far (by omega) _ _).far (by omega) _ _, (B7.set 0 _).set 1 _, (B8.far (by omega) _ _).far (by omega) _ _⟩
          case measure => (simp [intOf] <;> omega)
    · obtain rfl : j = nn := by omega
      have i1 : ¬ (j : Int) < (j : Int) := by omega
      have hle := HLE.out
      rw [← hq.1, ← hq.2] at hle
      obtain ⟨rfl, rfl⟩ := hle
      have bbw := hbb.trans (bb.mono hw2)
      have lc0 := keepC bbw (CKC.out 0 (by omega)).1
      rw [HC0.out, show co + 0 * 3 = co by omega] at lc0
      have OFL := Lib.hid (fun v => rOf_any qa v)
      clear hq
      go_upto_region 19 with fail
      refine at_worldQ (fun v => Below w.heap.size w v ∧ BK v p7 [.int .i64 qa, .int .i64 1] ∧ v.cell? ⟨cb, co, none⟩ = some (.int .i64 qa)) ⟨bbw, B7, lc0⟩ (fun V8 hS => ?_)
      clear bbw B7 lc0
      obtain ⟨bbw, B7, lc0⟩ := hS
      have at0 := B7.c 0 rfl
      have at1 := B7.c 1 rfl
      have ij : (0 : Int) < (j : Int) := by omega
      have ijn : 0 < j := by omega
      refine wp_region_noPanic ?_
      refine wp_region_held_drew (S := (Below V8.heap.size V8)) (by kernel_rfl) ((Below.refl _ _).drew) (fun hHeld => ?_)
      refine at_anyH (Below V8.heap.size V8) hHeld (fun wz0 hNew => ?_)
      clear hHeld
      have hHeld := hNew
      clear hNew
      refine tkn 0 ?vz1 rfl ?hyz1 hHeld ?restz1
      case hyz1 => (intro w hSw; have kat0 := keepC hSw at0; have kat1 := keepC hSw at1; have klc0 := keepC hSw lc0; go_simp; first | done | (with_reducible rfl))
      try simp only [PPz]
      refine tkn 1 ?vz2 rfl ?hyz2 hHeld ?restz2
      case hyz2 => (intro w hSw; go_simp; first | done | (with_reducible rfl))
      try simp only [PPz]
      refine tkn 2 ?vz3 rfl ?hyz3 hHeld ?restz3
      case hyz3 => (intro w hSw; go_simp; first | done | (with_reducible rfl))
      try simp only [PPz]
      refine tkn 3 ?vz4 rfl ?hyz4 hHeld ?restz4
      case hyz4 => (intro w hSw; go_simp; first | done | (with_reducible rfl))
      try simp only [PPz]
      refine tkn 4 ?vz5 rfl ?hyz5 hHeld ?restz5
      case hyz5 => (intro w hSw; have kat0 := keepC hSw at0; have kat1 := keepC hSw at1; have klc0 := keepC hSw lc0; go_simp; first | done | (with_reducible rfl))
      try simp only [PPz]
      refine rdy1 5 rfl (fun K hK => ?_)
      go_simp
      refine (OFL.out _).mono ?_
      rintro e wz6 ⟨rfl, hb3⟩
      go_wp2_with fail
      refine hK.out _ _ (keepB hHeld hb3) (fun hNew => ?_)
      clear hb3
      clear hHeld hK K
      have hHeld := hNew
      clear hNew
      try simp only [PPz]
      refine tkn 6 ?vz7 rfl ?hyz7 hHeld ?restz7
      case hyz7 => (intro w hSw; go_simp; first | done | (with_reducible rfl))
      try simp only [PPz]
      refine tkn 7 ?vz8 rfl ?hyz8 hHeld ?restz8
      case hyz8 => (intro w hSw; go_simp; first | done | (with_reducible rfl))
      try simp only [PPz]
      refine rdy1 8 rfl (fun K hK => ?_)
      go_simp
      refine (alive8_any _).mono ?_
      rintro e wz9 ⟨rfl, hb3⟩
      go_wp2_with fail
      refine hK.out _ _ (keepB hHeld hb3) (fun hNew => ?_)
      clear hb3
      clear hHeld hK K
      have hHeld := hNew
      clear hNew
      try simp only [PPz]
      refine tkn 9 ?vz10 rfl ?hyz10 hHeld ?restz10
      case hyz10 => (intro w hSw; go_simp; first | done | (with_reducible rfl))
      try simp only [PPz]
      refine tkn 10 ?vz11 rfl ?hyz11 hHeld ?restz11
      case hyz11 => (intro w hSw; go_simp; first | done | (with_reducible rfl))
      try simp only [PPz]
      refine wpAnyH_done (by kernel_rfl) ?_ _
      refine NoPanic.normal ?_
      replace bbw := keepB bbw hHeld
      clear hHeld at0 at1 lc0
      go_wp2_with fail
      go_ret
      exact ⟨rfl, bbw⟩
end Go.Proofs.YtpcdggkajindbaaGreat

