/- Package rent: moved. -/
import Derived.Test.YtncmffhoodfhjaaLxa
import Derived.Test.YtncmffhoodfhjaaYn
import Derived.Test.YtncmffhoodfhjaaYf
import Derived.Test.YtncmffhoodfhjaaYl
namespace Go.Proofs.Ytncmffhoodfhjaa
open Go.RowKit
/-- What moved gives. -/
def MvQ (X : Option Addr) (n cX : Nat) (P : Nat → Int) (R : Int) (w : World) (e : Ending) (w' : World) : Prop :=
  ∃ Y c, e = .returned (.agg #[.slice X n cX, .slice Y n c, .int .i64 (As.rdd n (As.shp n P R))]) ∧ IsI w' Y (As.rdp n (As.shp n P R)) ∧ (∀ b off, Y = some ⟨b, off, none⟩ → w.heap.size ≤ b) ∧ Below w.heap.size w w'
namespace As
theorem moved_list {n : Nat} (n1 : 1 ≤ n) (P : Nat → Int) (R : Int) :
    ((List.range n).map fun j => P j * ((Rp.q (R - sm P (List.range n)) n).den : Int) + (Rp.q (R - sm P (List.range n)) n).num) = rdp n (shp n P R) := by
  obtain ⟨_, h2⟩ := shp_rd n1 P R
  have e : ((List.range n).map fun j => P j * ((Rp.q (R - sm P (List.range n)) n).den : Int) + (Rp.q (R - sm P (List.range n)) n).num) = (List.range n).map (el (rdp n (shp n P R))) := List.map_congr_left fun j hj => (h2 j (List.mem_range.1 hj)).symm
  rw [e]
  exact ml_el (rdp_len _ _)
theorem sm_bd7 {f : Nat → Int} {n : Nat} (h : ∀ j, j < n → -7000000 ≤ f j ∧ f j ≤ 7000000) : ∀ k, k ≤ n → -(k * 7000000) ≤ sm f (List.range k) ∧ sm f (List.range k) ≤ k * 7000000
  | 0, _ => by simp [sm]
  | k + 1, hk => by
    have ih := sm_bd7 h k (by omega)
    have h1 := h k (by omega)
    rw [List.range_succ, sm_append]
    simp only [sm]
    rw [show ((k + 1 : Nat) : Int) = k + 1 from rfl, Int.add_mul]
    omega
theorem sm_rs (f : Nat → Int) (k : Nat) : sm f (List.range (k + 1)) = sm f (List.range k) + f k := by
  rw [List.range_succ, sm_append]; simp [sm]
end As
theorem IsI.far {w : World} {A : Option Addr} {xs : List Int} (h : IsI w A xs) {q : Nat} (hq : ∀ b off, A = some ⟨b, off, none⟩ → q ≠ b) (o : Nat) (u : Value) : IsI (w.setCell ⟨q, o, none⟩ u) A xs := by
  refine ⟨fun h0 => ?_, h.2⟩
  obtain ⟨b, off, e, hcs⟩ := h.1 h0
  exact ⟨b, off, e, fun i hi => cell_far (hcs i hi) (hq b off e) _⟩
theorem row_formP {w : World} {B : Nat} {e : TypeId} {sz n : Nat} {v : Value} {cs : List Value} (h : w.ownsRow B e sz v n cs) : ∃ A cap, v = .slice A n cap := by
  rcases h.2 with ⟨h1, h2⟩ | ⟨g, cap, cur, h1, _⟩
  · exact ⟨none, 0, by rw [h1, h2]⟩
  · exact ⟨_, _, h1⟩
/-- Box p holds a lease whose prices are a list of the call's own. -/
structure Px (w0 : World) (p Bs : Nat) (h0 h2 : Value) (F : Nat → Int) (v : Value) (k : Nat) (W : World) : Prop where
  b : Below w0.heap.size w0 W
  bp : BK W p [h0, v, h2]
  op : W.ownsRow Bs 3 1 v k ((List.range k).map fun i => Value.int .i64 (F i))
  lp : w0.heap.size ≤ p
  pB : p < Bs
  wB : Bs ≤ W.heap.size
theorem Px.keep {w0 : World} {p Bs : Nat} {h0 h2 : Value} {F : Nat → Int} {v : Value} {k : Nat} {W W' : World} (t : Px w0 p Bs h0 h2 F v k W) (hb : Below W.heap.size W W') : Px w0 p Bs h0 h2 F v k W' :=
  ⟨keepB t.b hb, t.bp.keep hb, ownG_keepB t.op hb, t.lp, t.pB, Nat.le_trans t.wB hb.size⟩
theorem Px.app {w0 : World} {p Bs g cap : Nat} {h0 h2 : Value} {F : Nat → Int} {v : Value} {k : Nat} {W w6 : World} {o : Obj} (t : Px w0 p Bs h0 h2 F v k W) (hg : (W.alloc o).grownBy w6 v.ownBlock)
    (hown : w6.ownsRow Bs 3 1 (.slice (some ⟨g, 0, none⟩) (k + 1) cap) (k + 1) (((List.range k).map fun i => Value.int .i64 (F i)) ++ [.int .i64 (F k)])) :
    BK w6 p [h0, v, h2] ∧ Px w0 p Bs h0 h2 F (.slice (some ⟨g, 0, none⟩) (k + 1) cap) (k + 1) (w6.setCell ⟨p, 1, none⟩ (.slice (some ⟨g, 0, none⟩) (k + 1) cap)) := by
  have hgB : Bs ≤ g := (World.ownsRow.lt hown g rfl).1
  have hset := gby_setL w6 p 1 (.slice (some ⟨g, 0, none⟩) (k + 1) cap)
  have hxB : ∀ b, v.ownBlock = some b → Bs ≤ b ∧ b < W.heap.size := fun b e => World.ownsRow.lt t.op b e
  have hb6 : Below w0.heap.size w0 w6 := own_app rfl t.b (fun b e => by have := (hxB b e).1; have := t.lp; have := t.pB; omega) hg
  have hpB := t.pB
  have hbk : BK w6 p [h0, v, h2] := (t.bp.al o).grown hg (fun e => by have := (hxB p e).1; omega)
  refine ⟨hbk, below_set hb6 t.lp _, hbk.set 1 _, ?_, t.lp, t.pB, ?_⟩
  · rw [List.range_succ, List.map_append]
    exact ownG_grown hown hset (fun b hb2 => by
      have : g = b := by simpa [Value.ownBlock] using hb2
      intro e3; injection e3 with e3; omega)
  · have h1 := (World.ownsRow.lt hown g rfl).2
    have h2 : (w6.setCell ⟨p, 1, none⟩ (.slice (some ⟨g, 0, none⟩) (k + 1) cap)).heap.size = w6.heap.size := by simp [World.setCell]
    rw [h2]
    omega
/-- Read as a list. -/
theorem Px.isI {w0 : World} {p Bs : Nat} {h0 h2 : Value} {F : Nat → Int} {A : Option Addr} {c n : Nat} {W : World} (t : Px w0 p Bs h0 h2 F (.slice A n c) n W) (hb : ∀ j, j < n → I64 (F j)) : IsI W A ((List.range n).map F) ∧ ∀ b off, A = some ⟨b, off, none⟩ → Bs ≤ b := by
  have ho : Own W Bs (.slice A n c) ((List.range n).map F) := by
    unfold Own
    rw [List.length_map, List.length_range, List.map_map]
    exact t.op
  refine ⟨ho.isI fun x hx => ?_, fun b off e => ?_⟩
  · obtain ⟨j, hj, rfl⟩ := List.mem_map.1 hx
    exact hb j (List.mem_range.1 hj)
  · subst e
    exact (ho.lt b rfl).1
set_option maxRecDepth 100000 in
set_option maxHeartbeats 8000000 in
theorem rtMoved_any (A : Option Addr) (na cv : Nat) (R : Int) (X : Option Addr) (n cX g cg : Nat) (P : Nat → Int) (w : World) (n1 : 1 ≤ n) (n6 : n ≤ 6) (r0 : 0 ≤ R) (r1 : R ≤ 10000000) (hp : ∀ j, j < n → -7000000 ≤ P j ∧ P j ≤ 7000000) (h : BF w g n P) :
    Calls Try.prog 63 #[.agg #[.slice A na cv, .int .i64 R], .slice X n cX, .slice (some ⟨g, 0, none⟩) n cg] w (MvQ X n cX P R w) := by
  have HS := Lib.hid (fun k hk => As.sm_bd7 hp k hk)
  have hsn := As.sm_bd7 hp n (Nat.le_refl _)
  obtain ⟨D1, D2⟩ := As.den_le (c := R - As.sm P (List.range n)) (n := n) (by omega)
  obtain ⟨_, _, N1, N2, _⟩ := Rp.q_ok (a := R - As.sm P (List.range n)) (n := n) (by omega) (by omega) (by omega) (by omega)
  have CF := Lib.hid (fun v => rtFrac_any (R - As.sm P (List.range n)) n (by omega) (by omega) (by omega) (by omega) v)
  have HML := Lib.hid (As.moved_list n1 P R)
  have hD := (As.shp_rd n1 P R).1
  have HQ := Lib.hid (show ∀ Y c w', IsI w' Y (As.rdp n (As.shp n P R)) → (∀ b off, Y = some ⟨b, off, none⟩ → w.heap.size ≤ b) → Below w.heap.size w w' → MvQ X n cX P R w (.returned (.agg #[.slice X n cX, .slice Y n c, .int .i64 ((Rp.q (R - As.sm P (List.range n)) n).den : Int)])) w' from fun Y c w' h1 h2 h3 => ⟨Y, c, by rw [hD], h1, h2, h3⟩)
  obtain ⟨i0, hi0, hz0, hz1, hz2⟩ := info_parts intInfo
  have HI := Lib.hid hi0
  have HI2 := Lib.hid hz0
  have HI3 := Lib.hid hz1
  have HI4 := Lib.hid hz2
  have HPB := Lib.hid hp
  have HP := Lib.hid h
  have HSU := Lib.hid (fun k => As.sm_rs P k)
  generalize ((Rp.q (R - As.sm P (List.range n)) n).den : Int) = dn at *
  generalize (Rp.q (R - As.sm P (List.range n)) n).num = nm at *
  clear h hp hD hi0 hz0 hz1 hz2 hsn
  go_enter Try.func63, Try.ntmps63
  go_upto_region 1 with fail
  refine at_box2 (fun V0 hbb b0 b1 hsz => ?_)
  clear hsz
  replace HP := Lib.hid (HP.out.keep hbb)
  have c1 := b0.c 1 rfl
  have B1 := Lib.hid b1
  have HB := Lib.hid hbb
  clear b0 b1 hbb
  go_wp2_with fail
  go_loop [7, 19] (fun s i => ∃ k : Nat, k ≤ n ∧ i = .int .i64 k ∧ s = .int .i64 (R - As.sm P (List.range k))) (fun _ i => n - (intOf i).toNat)
  case atStart => exact ⟨0, Nat.zero_le _, rfl, by simp [As.sm]⟩
  case round =>
    obtain ⟨k, hk, rfl, rfl⟩ := hrel
    by_cases hlt : k < n
    · have x0 := HP.out.c hlt
      obtain ⟨s1, s2⟩ := HS.out k (by omega)
      obtain ⟨p1, p2⟩ := HPB.out k hlt
      have E1 := HSU.out k
      have HE1 := Lib.hid E1
      clear E1
      generalize As.sm P (List.range k) = s at *
      generalize P k = x at *
      have i1 : (k : Int) < (n : Int) := by omega
      go_wp2_with fail
      go_round
      case rel => exact ⟨k + 1, by omega, by go_num, by rw [HE1.out, Int.sub_sub]⟩
      case measure => simp [intOf]; omega
    · obtain rfl : k = n := by omega
      clear c1
      go_wp2_with fail
      refine (CF.out _).mono ?_
      rintro e w3 ⟨rfl, hb⟩
      replace HP := Lib.hid (HP.out.keep hb)
      replace B1 := Lib.hid (B1.out.keep hb)
      replace HB := Lib.hid (keepB HB.out hb)
      clear hb CF
      go_upto_region 8 with fail
      refine at_worldQ (fun v => Below w3.heap.size w3 v ∧ BK v w3.heap.size [.int .i64 nm, .int .i64 dn]) ⟨below_al (Below.refl _ _) _, BK.new _ _ _⟩ (fun U hS => ?_)
      obtain ⟨hb, hBR⟩ := hS
      replace HP := Lib.hid (HP.out.keep hb)
      replace B1 := Lib.hid (B1.out.keep hb)
      replace HB := Lib.hid (keepB HB.out hb)
      have BR := Lib.hid hBR
      clear hb hBR
      have y1 := BR.out.c 1 rfl
      go_upto_region 10 with fail
      refine at_worldQ (fun v => Below U.heap.size U v ∧ BK v U.heap.size [.slice X k cX, .slice none 0 0, .int .i64 dn] ∧ v.heap.size = U.heap.size + 1) ⟨below_al (Below.refl _ _) _, BK.new _ _ _, by simp⟩ (fun U2 hS => ?_)
      obtain ⟨hb, hBL, hsz⟩ := hS
      have HU2 := Lib.hid hb
      have BL := Lib.hid hBL
      have HSZ := Lib.hid hsz
      clear hb hBL hsz y1
      go_wp2_with fail
      have HPX := Lib.hid (show Px U U.heap.size (U.heap.size + 1) (.slice X k cX) (.int .i64 dn) (fun j => P j * dn + nm) (.slice none 0 0) 0 U2 from ⟨HU2.out, BL.out, World.ownsRow_nil _ _ _ 1, Nat.le_refl _, Nat.lt_succ_self _, by rw [HSZ.out]; exact Nat.le_refl _⟩)
      go_loopw [38] (fun i W => ∃ m : Nat, m ≤ k ∧ i = .int .i64 m ∧ ∃ v, Hid (Px U U.heap.size (U.heap.size + 1) (.slice X k cX) (.int .i64 dn) (fun j => P j * dn + nm) v m W)) (fun i _ => k - (intOf i).toNat)
      case atStart => exact ⟨0, Nat.zero_le _, rfl, .slice none 0 0, HPX⟩
      case round =>
        clear BL HU2 HPX HSZ
        obtain ⟨m, hm, rfl, v, HPX⟩ := hrel
        obtain ⟨Y, cY, rfl⟩ := row_formP HPX.out.op
        by_cases hlm : m < k
        · have hO := HPX.out.op
          have HOW := Lib.hid hO
          clear hO
          have x0 := (HP.out.keep HPX.out.b).c hlm
          have y0 := (BR.out.keep HPX.out.b).c 0 rfl
          have z1 := HPX.out.bp.c 1 rfl
          obtain ⟨p1, p2⟩ := HPB.out m hlm
          have q1 : -42000000 ≤ P m * dn := by
            have : -7000000 * dn ≤ P m * dn := Int.mul_le_mul_of_nonneg_right p1 (by omega)
            omega
          have q2 : P m * dn ≤ 42000000 := by
            have : P m * dn ≤ 7000000 * dn := Int.mul_le_mul_of_nonneg_right p2 (by omega)
            omega
          obtain ⟨y, hy⟩ : ∃ y, P m * dn = y := ⟨_, rfl⟩
          have HAPP := Lib.hid (fun g cap w6 o hg hown => Px.app (g := g) (cap := cap) (w6 := w6) (o := o) HPX.out hg hown)
          simp only [hy] at HAPP
          rw [hy] at q1 q2
          have a1 : IntKind.i64.wrap (P m * dn) = y := by rw [hy]; exact IntWalk.i64_in _ (by omega)
          have a2 : IntKind.i64.wrap (y + nm) = y + nm := IntWalk.i64_in _ (by omega)
          have i1 : (m : Int) < (k : Int) := by omega
          have hwB := HPX.out.wB
          clear hy
          generalize P m = x at *
          go_wp2_with (at_builtin; go_loud (refine wpList_append_lies _ rfl _ _ _ rfl (U.heap.size + 1) 3 i0 _ 1 8 Try.underlying25 HI.out HI2.out HI3.out HI4.out rfl (by omega) (.slice Y m cY) m ((List.range m).map fun j => Value.int .i64 (P j * dn + nm)) (by rfl) (World.ownsRow.alloc HOW.out _) ⟨wr.heap.size, 0, none⟩ 1 1 [.int .i64 (y + nm)] (by rfl) (by rfl) (World.news_of_block (cs := #[.int .i64 (y + nm)]) (t := 3) (fr := (0, 0)) (heap_alloc_new wr _)) (by simp [Value.oneCell']) (by omega) (by unfold maxLen; omega) (by omega) (by simp; omega) (wr.heap.size + 1) (by simp) ?_; intro g cap w6 hown1 hgrow hat hglt; have hT := HAPP.out g cap w6 _ hgrow hown1; have HN := Lib.hid hT.2; have g1 := hT.1.c 1 rfl; have g2 := hT.1.f 1 rfl; clear hT hown1 hgrow hat))
          go_roundw
          case rel => exact ⟨m + 1, by omega, by go_num, _, HN⟩
          case measure => simp [intOf]; omega
        · obtain rfl : m = k := by omega
          obtain ⟨hI, hfr⟩ := HPX.out.isI (fun j hj => by
            obtain ⟨p1, p2⟩ := HPB.out j hj
            have q1 : -42000000 ≤ P j * dn := by
              have : -7000000 * dn ≤ P j * dn := Int.mul_le_mul_of_nonneg_right p1 (by omega)
              omega
            have q2 : P j * dn ≤ 42000000 := by
              have : P j * dn ≤ 7000000 * dn := Int.mul_le_mul_of_nonneg_right p2 (by omega)
              omega
            unfold I64; omega)
          rw [HML.out] at hI
          have hUz := HB.out.size
          have hb1l := B1.out.lt
          have hb1 := B1.out.keep HPX.out.b
          have hne : ∀ b off, Y = some ⟨b, off, none⟩ → w.heap.size + 1 ≠ b := fun b off e => by have := hfr b off e; omega
          have HIW := Lib.hid (fun k1 u1 k2 u2 k3 u3 => ((hI.far hne k1 u1).far hne k2 u2).far hne k3 u3)
          have HFR := Lib.hid (show ∀ b off, Y = some ⟨b, off, none⟩ → w.heap.size ≤ b from fun b off e => by have := hfr b off e; omega)
          have HBW := Lib.hid (keepB HB.out HPX.out.b)
          have HQ2 := Lib.hid (fun v h1 h3 => HQ.out Y cY v h1 HFR.out h3)
          have l0 := HPX.out.bp.c 0 rfl
          have l1 := HPX.out.bp.c 1 rfl
          have l2 := HPX.out.bp.c 2 rfl
          have bb := ((hb1.set 0 (.slice X m cX)).set 1 (.slice Y m cY)).set 2 (.int .i64 dn)
          have z0 := hb1.c 0 rfl
          have z1 := hb1.c 1 rfl
          have z2 := hb1.c 2 rfl
          have f0 := hb1.f 0 rfl
          have f1 := hb1.f 1 rfl
          have f2 := hb1.f 2 rfl
          have r0 := bb.c 0 rfl
          have r1 := bb.c 1 rfl
          have r2 := bb.c 2 rfl
          clear bb hb1 hI hfr hne HPX B1 HP BR HB
          go_wp2_with fail
          exact bodyPost_ret (v := .agg #[.slice X m cX, .slice Y m cY, .int .i64 dn]) (by simp [results, Try.results63, go_sem, r0, r1, r2]) rfl (HQ2.out _ (HIW.out _ _ _ _ _ _) (((HBW.out.setCell (Nat.le_succ _) _).setCell (Nat.le_succ _) _).setCell (Nat.le_succ _) _))
end Go.Proofs.Ytncmffhoodfhjaa
