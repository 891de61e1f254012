/- The reference's layer 15: envied, settle. -/
import Derived.Test.YtncmffhoodfhjaaGreatLya0
import Derived.Test.YtncmffhoodfhjaaGreatLxb
import Derived.BigRegion
namespace Go.Proofs.YtncmffhoodfhjaaGreat
open Go.RowKit
set_option maxRecDepth 100000 in
set_option maxHeartbeats 4000000 in
theorem rEnvied_any (A : Option Addr) (cv : Nat) (V : List (List Int)) (R : Int) (X : Option Addr) (cx : Nat) (p cg : Nat) (G : Nat → Int) (i k : Nat) (w : World) (ok : As.Ok V) (hb : As.Top V (As.bst V)) (hM : IsM w A V) (hX : IsI w X (As.al (As.bst V))) (hG : BF w p V.length G) (hbd : ∀ j, j < V.length → -7000000 ≤ G j ∧ G j ≤ 7000000) (hi : i < V.length) (hk : k < V.length) :
    Calls Tryz.prog 45 #[.agg #[.slice A V.length cv, .int .i64 R], .slice X V.length cx, .slice (some ⟨p, 0, none⟩) V.length cg, .int .i64 i, .int .i64 k] w fun e w' => e = .returned (.int .i64 (As.lack V (As.bst V) G i k)) ∧ Below w.heap.size w w' := by
  have hlb : (As.al (As.bst V)).length = V.length := by rw [As.al_len]; exact hb.len
  have hbk := As.own_lt hb hk
  obtain ⟨b, off, rb, ro, cc, rfl, hr1, hc1⟩ := row_at ok hM hi
  obtain ⟨b', off', rb2, ro2, cc2, hA, hr2, hc2⟩ := row_at ok hM hk
  cases hA
  obtain ⟨xb, xo, rfl, hxs⟩ := list_at hX (j := k) (by rw [hlb]; exact hk)
  have x0 := hxs k (by rw [hlb]; exact hk)
  rw [As.el_al] at x0
  have x1 := hc1 _ hbk
  have x2 := hc2 _ hbk
  have g1 := hG.c hi
  have g2 := hG.c hk
  obtain ⟨u1, u2⟩ := hbd i hi
  obtain ⟨u3, u4⟩ := hbd k hk
  obtain ⟨v1, v2⟩ := ok.bd i ((As.bst V).getD k 0)
  obtain ⟨v3, v4⟩ := ok.bd k ((As.bst V).getD k 0)
  have HE := Lib.hid (show As.lack V (As.bst V) G i k = As.vl V i ((As.bst V).getD k 0) - (As.vl V k ((As.bst V).getD k 0) - G k) - G i from rfl)
  rw [HE.out]
  clear hM hX hG hbd hc1 hc2 hxs HE ok hb hlb
  generalize As.vl V i ((As.bst V).getD k 0) = a at *
  generalize As.vl V k ((As.bst V).getD k 0) = c at *
  generalize (As.bst V).getD k 0 = m at *
  generalize G i = gi at *
  generalize G k = gk at *
  have a1 : IntKind.i64.wrap (c - gk) = c - gk := IntWalk.i64_in _ (by omega)
  have a2 : IntKind.i64.wrap (a - (c - gk)) = a - (c - gk) := IntWalk.i64_in _ (by omega)
  have a3 : IntKind.i64.wrap (a - (c - gk) - gi) = a - (c - gk) - gi := IntWalk.i64_in _ (by omega)
  have i1 : (i : Int) < (V.length : Int) := by omega
  have i2 : (k : Int) < (V.length : Int) := by omega
  have i3 : (m : Int) < (V.length : Int) := by omega
  go_enter Tryz.func45, Tryz.ntmps45
  go_upto_region 1 with fail
  refine at_box1 (fun V0 hbb b0 hsz => ?_)
  clear hsz
  replace hr1 := keepC hbb hr1
  replace hr2 := keepC hbb hr2
  replace x0 := keepC hbb x0
  replace x1 := keepC hbb x1
  replace x2 := keepC hbb x2
  replace g1 := keepC hbb g1
  replace g2 := keepC hbb g2
  have c0 := b0.c 0 rfl
  clear b0
  refine wp_region_noPanic ?_
  refine wp_region_held_drew (S := (Below V0.heap.size V0)) (by kernel_rfl) ((Below.refl _ _).drew) (fun hHeld => ?_)
  refine at_anyH (Below V0.heap.size V0) hHeld (fun we0 hNew => ?_)
  clear hHeld
  have hHeld := hNew
  clear hNew
  have KCe := fun (w : World) (hSw : (Below V0.heap.size V0) w) => And.intro (keepC hSw hr1) (And.intro (keepC hSw hr2) (And.intro (keepC hSw x0) (And.intro (keepC hSw x1) (And.intro (keepC hSw x2) (And.intro (keepC hSw g1) (And.intro (keepC hSw g2) (keepC hSw c0)))))))
  refine tkd 0 ?_
  try simp only [PPz]
  refine tkm 1 rfl hHeld (fun w hSw => by have kc := KCe w hSw; go_simp <;> with_reducible rfl) ?_
  try simp only [PPz]
  refine tkd 2 ?_
  try simp only [PPz]
  refine tkd 3 ?_
  try simp only [PPz]
  refine tkm 4 rfl hHeld (fun w hSw => by have kc := KCe w hSw; go_simp <;> with_reducible rfl) ?_
  try simp only [PPz]
  refine tkd 5 ?_
  try simp only [PPz]
  refine tkd 6 ?_
  try simp only [PPz]
  refine tkd 7 ?_
  try simp only [PPz]
  refine tkm 8 rfl hHeld (fun w hSw => by have kc := KCe w hSw; go_simp <;> with_reducible rfl) ?_
  try simp only [PPz]
  refine tkd 9 ?_
  try simp only [PPz]
  refine tkm 10 rfl hHeld (fun w hSw => by have kc := KCe w hSw; go_simp <;> with_reducible rfl) ?_
  try simp only [PPz]
  refine tkd 11 ?_
  try simp only [PPz]
  refine tkm 12 rfl hHeld (fun w hSw => by have kc := KCe w hSw; go_simp <;> with_reducible rfl) ?_
  try simp only [PPz]
  refine tkd 13 ?_
  try simp only [PPz]
  refine tkd 14 ?_
  try simp only [PPz]
  refine tkm 15 rfl hHeld (fun w hSw => by have kc := KCe w hSw; go_simp <;> with_reducible rfl) ?_
  try simp only [PPz]
  refine tkd 16 ?_
  try simp only [PPz]
  refine tkd 17 ?_
  try simp only [PPz]
  refine tkd 18 ?_
  try simp only [PPz]
  refine tkm 19 rfl hHeld (fun w hSw => by have kc := KCe w hSw; go_simp <;> with_reducible rfl) ?_
  try simp only [PPz]
  refine tkd 20 ?_
  try simp only [PPz]
  refine tkm 21 rfl hHeld (fun w hSw => by have kc := KCe w hSw; go_simp <;> with_reducible rfl) ?_
  try simp only [PPz]
  refine tkd 22 ?_
  try simp only [PPz]
  refine tkd 23 ?_
  try simp only [PPz]
  refine tkd 24 ?_
  try simp only [PPz]
  refine tkm 25 rfl hHeld (fun w hSw => by have kc := KCe w hSw; go_simp <;> with_reducible rfl) ?_
  try simp only [PPz]
  refine tkd 26 ?_
  try simp only [PPz]
  refine tkd 27 ?_
  try simp only [PPz]
  refine tkd 28 ?_
  try simp only [PPz]
  refine tkd 29 ?_
  try simp only [PPz]
  refine tkd 30 ?_
  try simp only [PPz]
  refine tkm 31 rfl hHeld (fun w hSw => by have kc := KCe w hSw; go_simp <;> with_reducible rfl) ?_
  try simp only [PPz]
  refine tkd 32 ?_
  try simp only [PPz]
  refine tkd 33 ?_
  try simp only [PPz]
  refine wpAnyH_done (by kernel_rfl) ?_ _
  refine NoPanic.normal ?_
  replace hbb := keepB hbb hHeld
  clear hHeld
  go_wp2_with fail
  go_ret
  exact ⟨rfl, hbb⟩
/-- An int read from memory. -/
def rdI (W : World) (g j : Nat) : Int := match W.cell? ⟨g, j, none⟩ with | some (.int _ z) => z | _ => 0
theorem rdI_bf {W : World} {g n : Nat} {G : Nat → Int} (h : BF W g n G) {j : Nat} (hj : j < n) : rdI W g j = G j := by unfold rdI; rw [h.c hj]
def bN (m : Value) : Nat := match m with | .bool true => 1 | _ => 0
/-- The measure of the rounds. -/
def mS (V : List (List Int)) (r : Bool) (g : Nat) (m : Value) (W : World) : Nat := 2 * (As.sS V (As.bst V) r (rdI W g)).toNat + bN m
theorem mS_eq {V : List (List Int)} {r : Bool} {g : Nat} {G : Nat → Int} {W : World} (h : BF W g V.length G) (m : Value) : mS V r g m W = 2 * (As.sS V (As.bst V) r G).toNat + bN m := by
  unfold mS
  rw [As.sS_congr fun j hj => rdI_bf h hj]
set_option maxRecDepth 100000 in
set_option maxHeartbeats 8000000 in
theorem rSettle_any (A : Option Addr) (cv : Nat) (V : List (List Int)) (R : Int) (X : Option Addr) (cx : Nat) (r : Bool) (w : World) (ok : As.Ok V) (hM : IsM w A V) (hX : IsI w X (As.al (As.bst V))) :
    Calls Tryz.prog 24 #[.agg #[.slice A V.length cv, .int .i64 R], .slice X V.length cx, .bool r] w fun e w' => ∃ g, e = .returned (.slice (some ⟨g, 0, none⟩) V.length V.length) ∧ w.heap.size ≤ g ∧ BF w' g V.length (if r = true then As.gF V (As.bst V) else As.gC V (As.bst V)) ∧ Below w.heap.size w w' := by
  have hb := As.bst_top ok
  have n1 := ok.n1
  have n6 := ok.n6
  obtain ⟨FN, hFN⟩ : ∃ FN, FN = (if r = true then As.gF V (As.bst V) else As.gC V (As.bst V)) := ⟨_, rfl⟩
  rw [← hFN]
  have HFN := Lib.hid (show ∀ G, As.InvS V (As.bst V) r G → As.GC V (As.bst V) G → ∀ j, j < V.length → G j = FN j from fun G h1 h2 j hj => by rw [hFN, As.settled hb h1 h2 hj]; split <;> rfl)
  clear hFN
  have HA := Lib.hid hM
  have HX := Lib.hid hX
  have HOK := Lib.hid ok
  have HT := Lib.hid hb
  have CE := Lib.hid (fun v p G i k (h1 : IsM v A V) h2 (h3 : BF v p V.length G) h4 hi hk => rEnvied_any A cv V R X cx p V.length G i k v ok hb h1 h2 h3 h4 hi hk)
  have MK := ints_make V.length (by omega)
  clear hM hX ok hb
  go_enter Tryz.func24, Tryz.ntmps24
  go_upto_region 1 with fail
  refine at_box1 (fun V0 hbb b0 hsz => ?_)
  clear hsz
  replace HA := Lib.hid (HA.out.keep hbb)
  replace HX := Lib.hid (HX.out.keep hbb)
  have B0 := Lib.hid b0
  have HB := Lib.hid hbb
  clear hbb b0
  go_wp2_with fail
  clear MK
  have HSZ := Lib.hid HB.out.size
  go_loopw [8] (fun m W => ∃ (mb : Bool) (G : Nat → Int), m = .bool mb ∧ Hid (Below V0.heap.size V0 W) ∧ Hid (BF W V0.heap.size V.length G) ∧ Hid (As.InvS V (As.bst V) r G ∧ (mb = false → As.GC V (As.bst V) G))) (fun m W => mS V r V0.heap.size m W)
  case atStart => exact ⟨true, fun _ => 0, rfl, Lib.hid (below_al (Below.refl _ _) _), Lib.hid (BF.new V0 V.length 3), Lib.hid ⟨As.inv_zero r, fun h => by cases h⟩⟩
  case round =>
    obtain ⟨mb, G0, rfl, HW, HG0, HI0⟩ := hrel
    cases mb with
    | false =>
      have HF := Lib.hid (HG0.out.cong (G := FN) fun j hj => HFN.out G0 HI0.out.1 (HI0.out.2 rfl) j hj)
      go_wp2_with fail
      go_ret
      exact ⟨_, rfl, HSZ.out, HF.out, keepB HB.out HW.out⟩
    | true =>
      have HM0 := Lib.hid (mS_eq (r := r) HG0.out (.bool true))
      have HP := Lib.hid (As.PassI.start HI0.out.1)
      go_wp2_with fail
      go_loopw [8, 9] (fun m i W => ∃ (mb : Bool) (G : Nat → Int) (x : Nat), x ≤ V.length ∧ m = .bool mb ∧ i = .int .i64 x ∧ Hid (Below V0.heap.size V0 W) ∧ Hid (BF W V0.heap.size V.length G) ∧ Hid (As.PassI V (As.bst V) r G0 mb G x 0)) (fun _ i _ => V.length - (intOf i).toNat)
      case atStart => exact ⟨false, G0, 0, Nat.zero_le _, rfl, rfl, HW, HG0, HP⟩
      case round =>
        clear HP HW
        obtain ⟨mb, G, x, hx, rfl, rfl, HW, HG, HP⟩ := hrel
        by_cases hlx : x < V.length
        · go_wp2_with fail
          go_loopw [8, 10] (fun m i W => ∃ (mb : Bool) (G : Nat → Int) (y : Nat), y ≤ V.length ∧ m = .bool mb ∧ i = .int .i64 y ∧ Hid (Below V0.heap.size V0 W) ∧ Hid (BF W V0.heap.size V.length G) ∧ Hid (As.PassI V (As.bst V) r G0 mb G x y)) (fun _ i _ => V.length - (intOf i).toNat)
          case atStart => exact ⟨mb, G, 0, Nat.zero_le _, rfl, rfl, HW, HG, HP⟩
          case round =>
            clear HP HW HG
            obtain ⟨mb, G, y, hy, rfl, rfl, HW, HG, HP⟩ := hrel
            by_cases hly : y < V.length
            · have CE1 := Lib.hid (CE.out wr _ G x y (HA.out.keep HW.out) (HX.out.keep HW.out) HG.out (fun j hj => As.inv_bd HOK.out HT.out HP.out.1 hj) hlx hly)
              have c0 := (B0.out.keep HW.out).c 0 rfl
              have c1 := (B0.out.keep HW.out).c 1 rfl
              go_wp2_with fail
              refine CE1.out.mono ?_
              rintro e w2 ⟨rfl, hb2⟩
              have HW2 := Lib.hid (keepB HW.out hb2)
              have HG2 := Lib.hid (HG.out.keep hb2)
              clear c0 c1 hb2 HW HG CE1
              by_cases hle : As.lack V (As.bst V) G x y ≤ 0
              · have HP2 := Lib.hid (HP.out.skip hlx hly hle)
                have d1 : decide (As.lack V (As.bst V) G x y ≤ 0) = true := decide_eq_true hle
                generalize As.lack V (As.bst V) G x y = l at *
                go_wp2_with fail
                go_roundw
                case rel => exact ⟨mb, G, y + 1, by omega, rfl, by go_num, HW2, HG2, HP2⟩
                case measure => simp [intOf]; omega
              · have HP2 := Lib.hid (HP.out.step HT.out hlx hly (by omega))
                have d1 : decide (As.lack V (As.bst V) G x y ≤ 0) = false := decide_eq_false hle
                obtain ⟨e1, e2⟩ := As.inv_bd HOK.out HT.out HP.out.1 hlx
                obtain ⟨e3, e4⟩ := As.inv_bd HOK.out HT.out HP.out.1 hly
                obtain ⟨e5, e6⟩ := As.inv_bd HOK.out HT.out HP2.out.1 hlx
                obtain ⟨e7, e8⟩ := As.inv_bd HOK.out HT.out HP2.out.1 hly
                have x1 := HG2.out.c hlx
                have x2 := HG2.out.f hlx
                have x3 := HG2.out.c hly
                have x4 := HG2.out.f hly
                have i1 : (x : Int) < (V.length : Int) := by omega
                have i2 : (y : Int) < (V.length : Int) := by omega
                cases r with
                | true =>
                  have HS1 := Lib.hid ((HG2.out.set x (G x + As.lack V (As.bst V) G x y)).cong (G := As.stS V (As.bst V) true G x y) fun j _ => by simp [As.stS])
                  simp only [As.stS, if_true] at e5 e6
                  have HS2 := Lib.hid (show Below V0.heap.size V0 (w2.setCell ⟨V0.heap.size, x, none⟩ (.int .i64 (G x + As.lack V (As.bst V) G x y))) from HW2.out.setCell (Nat.le_refl _) _)
                  generalize As.stS V (As.bst V) true G x y = G' at *
                  generalize As.lack V (As.bst V) G x y = l at *
                  generalize G x = gx at *
                  generalize G y = gy at *
                  have a1 : IntKind.i64.wrap (gx + l) = gx + l := IntWalk.i64_in _ (by omega)
                  go_wp2_with fail
                  go_roundw
                  case rel => exact ⟨true, G', y + 1, by omega, rfl, by go_num, HS2, HS1, HP2⟩
                  case measure => simp [intOf]; omega
                | false =>
                  have HS1 := Lib.hid ((HG2.out.set y (G y - As.lack V (As.bst V) G x y)).cong (G := As.stS V (As.bst V) false G x y) fun j _ => by simp [As.stS])
                  simp only [As.stS, Bool.false_eq_true, if_false, if_true] at e7 e8
                  have HS2 := Lib.hid (show Below V0.heap.size V0 (w2.setCell ⟨V0.heap.size, y, none⟩ (.int .i64 (G y - As.lack V (As.bst V) G x y))) from HW2.out.setCell (Nat.le_refl _) _)
                  generalize As.stS V (As.bst V) false G x y = G' at *
                  generalize As.lack V (As.bst V) G x y = l at *
                  generalize G x = gx at *
                  generalize G y = gy at *
                  have a1 : IntKind.i64.wrap (gy - l) = gy - l := IntWalk.i64_in _ (by omega)
                  go_wp2_with fail
                  go_roundw
                  case rel => exact ⟨true, G', y + 1, by omega, rfl, by go_num, HS2, HS1, HP2⟩
                  case measure => simp [intOf]; omega
            · obtain rfl : y = V.length := by omega
              have HP2 := Lib.hid HP.out.row
              go_wp2_with fail
              go_roundw
              case rel => exact ⟨mb, G, x + 1, by omega, rfl, by go_num, HW, HG, HP2⟩
              case measure => simp [intOf]; omega
        · obtain rfl : x = V.length := by omega
          have HQ := Lib.hid HP.out.fin
          have HM1 := Lib.hid (mS_eq (r := r) HG.out (.bool mb))
          have HN0 := Lib.hid (As.sS_nn HI0.out.1)
          have HN1 := Lib.hid (As.sS_nn HP.out.1)
          go_wp2_with fail
          go_roundw
          case rel => exact ⟨mb, G, rfl, HW, HG, Lib.hid ⟨HP.out.1, fun h => by
            rcases HQ.out.2 with ⟨h2, _⟩ | ⟨_, h2, _⟩
            · rw [h] at h2; cases h2
            · exact h2⟩⟩
          case measure =>
            rw [HM0.out, HM1.out]
            have k0 := HN0.out
            have k1 := HN1.out
            rcases HQ.out.2 with ⟨h2, h3⟩ | ⟨h2, _, h3⟩
            · subst h2
              have b1 : bN (.bool true) = 1 := rfl
              omega
            · subst h2
              rw [h3]
              have b1 : bN (.bool true) = 1 := rfl
              have b0 : bN (.bool false) = 0 := rfl
              omega
end Go.Proofs.YtncmffhoodfhjaaGreat
