/- Package assign: leastPrices. -/
import Derived.Test.YtpiolhjiflohgaaAsh
import Derived.Test.YtpiolhjiflohgaaAsp
namespace Go.Proofs.Ytpiolhjiflohgaa
open Go.RowKit
namespace As
theorem el_rx {V : List (List Int)} {b : List Nat} {p : List Int} {i j : Nat} (h : j < p.length) (k : Nat) : el (rx V b i p j) k = if k = j then max (el p j) (el p (b.getD i 0) + vl V i j - vl V i (b.getD i 0)) else el p k := by
  unfold rx; exact el_set h
/-- A state of the prices. -/
structure St (V : List (List Int)) (b : List Nat) (P : List Int) : Prop where
  pr : Pr V b P
  nn : ∀ y, 0 ≤ el P y
theorem St.le {V : List (List Int)} {b : List Nat} {P Q : List Int} (h : St V b P) (hq : Pr V b Q) (hl : Le P Q) : St V b Q := ⟨hq, fun y => Int.le_trans (h.nn y) (hl y)⟩
theorem st_rnds {V : List (List Int)} {b : List Nat} (hb : Top V b) (k : Nat) : St V b (rnds V b k) := ⟨rnds_pr hb k, rnds_nn hb k⟩
theorem st_rnd {V : List (List Int)} {b : List Nat} (hb : Top V b) {P : List Int} (h : St V b P) {k : Nat} (hk : k ≤ V.length) : St V b (rnd V b P k) := h.le (rnd_pr hb h.pr k hk) (rnd_le hb h.pr k hk)
theorem st_row {V : List (List Int)} {b : List Nat} (hb : Top V b) {P : List Int} (h : St V b P) {i k : Nat} (hi : i < V.length) (hk : k ≤ V.length) : St V b (row V b P i k) := h.le (row_pr hb h.pr hi k hk) (row_le hb h.pr hi k hk)
theorem st_bd {V : List (List Int)} {b : List Nat} (hb : Top V b) {P : List Int} (h : St V b P) (h0 : 0 < V.length) (hV : ∀ i j, 0 ≤ vl V i j ∧ vl V i j ≤ 1000000) {y : Nat} (hy : y < V.length) : 0 ≤ el P y ∧ el P y ≤ 1000000 :=
  ⟨h.nn y, Int.le_trans (pr_le hb h.pr hy) (lp_bound hb h0 hV hy)⟩
end As
set_option maxRecDepth 100000 in
set_option maxHeartbeats 4000000 in
theorem leastPrices_any (A : Option Addr) (cv : Nat) (V : List (List Int)) (B : Option Addr) (ca : Nat) (a : List Nat) (w : World) (ok : As.Ok V) (ht : As.Top V a) (h : IsM w A V) (hB : IsI w B (As.al a)) :
    Calls Try.prog 67 #[.slice A V.length cv, .slice B V.length ca] w fun e w' => e = .returned (.slice (some ⟨w.heap.size, 0, none⟩) V.length V.length) ∧ BF w' w.heap.size V.length (As.el (As.lp V a)) ∧ Below w.heap.size w w' := by
  have n1 := ok.n1
  have n6 := ok.n6
  obtain ⟨hl, hlt⟩ := As.perm_lt ht.perm
  obtain ⟨b, off, rfl, hrows⟩ := h (by omega)
  obtain ⟨ab, ao, rfl, hac⟩ := hB.1 (by rw [As.al_len]; omega)
  have HR := Lib.hid hrows
  have HA := Lib.hid (show ∀ i, i < V.length → w.cell? ⟨ab, ao + i, none⟩ = some (.int .i64 ((a.getD i 0 : Nat) : Int)) from fun i hi => by
    have := hac i (by rw [As.al_len]; omega)
    rwa [As.el_al] at this)
  have HLT := Lib.hid hlt
  have HOKV := Lib.hid ok
  have HTOP := Lib.hid ht
  have MK := ints_make V.length (by omega)
  clear h hrows ok hB hac hl hlt ht
  go_enter Try.func67, Try.ntmps67
  go_wp2_with fail
  clear MK
  go_loopw [15] (fun i W => ∃ t : Nat, t ≤ V.length ∧ i = .int .i64 t ∧ BF W w.heap.size V.length (As.el (As.rnds V a t)) ∧ Below w.heap.size w W) (fun i _ => V.length - (intOf i).toNat)
  case atStart => exact ⟨0, Nat.zero_le _, rfl, (BF.new _ _ _).cong (fun k hk => by simp [As.rnds, As.el, hk]), below_al (Below.refl _ _) _⟩
  case round =>
    obtain ⟨t, htl, rfl, hbf, hbb⟩ := hrel
    by_cases hltt : t < V.length
    · have HST := Lib.hid (As.st_rnds HTOP.out t)
      have HNEXT := Lib.hid (show As.rnd V a (As.rnds V a t) V.length = As.rnds V a (t + 1) from rfl)
      have HZ := Lib.hid (show As.rnd V a (As.rnds V a t) 0 = As.rnds V a t from rfl)
      generalize As.rnds V a t = P0 at *
      go_wp2_with fail
      go_loopw [19] (fun i W => ∃ k : Nat, k ≤ V.length ∧ i = .int .i64 k ∧ BF W w.heap.size V.length (As.el (As.rnd V a P0 k)) ∧ Below w.heap.size w W) (fun i _ => V.length - (intOf i).toNat)
      case atStart => exact ⟨0, Nat.zero_le _, rfl, by rw [HZ.out]; exact hbf, hbb⟩
      case round =>
        clear hbf hbb
        obtain ⟨k, hk, rfl, hbf, hbb⟩ := hrel
        by_cases hltk : k < V.length
        · have HST1 := Lib.hid (As.st_rnd HTOP.out HST.out (k := k) (by omega))
          have HNEXT1 := Lib.hid (As.rnd_succ V a P0 k)
          have HZ1 := Lib.hid (show As.row V a (As.rnd V a P0 k) k 0 = As.rnd V a P0 k from rfl)
          generalize As.rnd V a P0 k = P1 at *
          obtain ⟨R, c, hc, hrl, hI⟩ := HR.out k hltk
          rw [HOKV.out.row k hltk] at hc
          have hj := HLT.out k hltk
          obtain ⟨rb, ro, rfl, hcs⟩ := hI.1 (by rw [HOKV.out.row k hltk]; omega)
          have HCS := Lib.hid (show ∀ j, j < V.length → w.cell? ⟨rb, ro + j, none⟩ = some (.int .i64 (As.vl V k j)) from fun j hj => hcs j (by rw [HOKV.out.row k hltk]; omega))
          have HC1 := Lib.hid hc
          have c1 := keepC hbb (HA.out k hltk)
          have c2 := keepC hbb hc
          have b2 := HOKV.out.bd k (a.getD k 0)
          have q1 := HCS.out (a.getD k 0) hj
          have HRX := Lib.hid (fun (P : List Int) (m : Nat) (hm : m < P.length) => As.el_rx (V := V) (b := a) (p := P) (i := k) (j := m) hm)
          clear hcs hI hrl hc
          generalize hown : a.getD k 0 = o at *
          generalize As.vl V k o = y at *
          have Q1 := Lib.hid q1
          clear q1 hown
          go_wp2_with fail
          clear c1 c2
          go_loopw [29] (fun i W => ∃ m : Nat, m ≤ V.length ∧ i = .int .i64 m ∧ BF W w.heap.size V.length (As.el (As.row V a P1 k m)) ∧ Below w.heap.size w W) (fun i _ => V.length - (intOf i).toNat)
          case atStart => exact ⟨0, Nat.zero_le _, rfl, by rw [HZ1.out]; exact hbf, hbb⟩
          case round =>
            clear hbf hbb
            obtain ⟨m, hm, rfl, hbf, hbb⟩ := hrel
            by_cases hltm : m < V.length
            · have hst := As.st_row HTOP.out HST1.out (i := k) (k := m) hltk (by omega)
              have HNX := Lib.hid (show ∀ i, As.el (As.row V a P1 k (m + 1)) i = if i = m then max (As.el (As.row V a P1 k m) m) (As.el (As.row V a P1 k m) o + As.vl V k m - y) else As.el (As.row V a P1 k m) i from fun i => by
                rw [As.row_succ]
                exact HRX.out _ m (by rw [hst.pr.len]; exact hltm) i)
              have e1 := As.st_bd HTOP.out hst (by omega) HOKV.out.bd hltm
              have e2 := As.st_bd HTOP.out hst (by omega) HOKV.out.bd hj
              have e3 := HOKV.out.bd k m
              have x1 := hbf.c hltm
              have x2 := hbf.c hj
              have x3 := hbf.f hltm
              have x4 := keepC hbb (HCS.out m hltm)
              have x5 := keepC hbb HC1.out
              have x6 := keepC hbb Q1.out
              clear hst
              generalize As.row V a P1 k m = P at *
              generalize As.el P m = pm at *
              generalize As.el P o = po1 at *
              generalize As.vl V k m = x at *
              obtain ⟨b21, b22⟩ := b2
              obtain ⟨e11, e12⟩ := e1
              obtain ⟨e21, e22⟩ := e2
              obtain ⟨e31, e32⟩ := e3
              have i1 : (k : Int) < (V.length : Int) := by omega
              have i2 : (m : Int) < (V.length : Int) := by omega
              have i3 : (o : Int) < (V.length : Int) := by omega
              have a1 : IntKind.i64.wrap (po1 + x) = po1 + x := IntWalk.i64_in _ (by omega)
              have a2 : IntKind.i64.wrap (po1 + x - y) = po1 + x - y := IntWalk.i64_in _ (by omega)
              go_wp2_with fail
              go_big_region
              clear a1 a2 x1 x2 x3 x4 x5 x6
              go_wp2_with fail
              go_roundw
              case rel => exact ⟨m + 1, by omega, by go_num, ((hbf.set m _).drew).cong (fun i _ => by rw [imax]; exact (HNX.out i).symm), (hbb.setCell (Nat.le_refl _) _).drew⟩
              case measure => simp [intOf]; omega
            · obtain rfl : m = V.length := by omega
              go_wp2_with fail
              go_roundw
              case rel => exact ⟨k + 1, by omega, by go_num, by rw [HNEXT1.out]; exact hbf, hbb⟩
              case measure => simp [intOf]; omega
        · obtain rfl : k = V.length := by omega
          go_wp2_with fail
          go_roundw
          case rel => exact ⟨t + 1, by omega, by go_num, by rw [← HNEXT.out]; exact hbf, hbb⟩
          case measure => simp [intOf]; omega
    · obtain rfl : t = V.length := by omega
      go_wp2_with fail
      go_ret
      exact ⟨rfl, hbf, hbb⟩
end Go.Proofs.Ytpiolhjiflohgaa
