/- The reference of layer 13: Link. -/
import Derived.Test.YtncmffhoodfhjaaGreatYb
import Derived.Test.YtncmffhoodfhjaaGreatYh
namespace Go.Proofs.YtncmffhoodfhjaaGreat
open Go.RowKit
/-- A block of n bools, to be written. -/
def BB (w : World) (g n : Nat) (S : Nat → Bool) : Prop := BK w g ((List.range n).map fun k => Value.bool (S k))
theorem BB.lt {w : World} {g n : Nat} {S : Nat → Bool} (h : BB w g n S) : g < w.heap.size := BK.lt h
theorem BB.c {w : World} {g n : Nat} {S : Nat → Bool} (h : BB w g n S) {k : Nat} (hk : k < n) : w.cell? ⟨g, k, none⟩ = some (.bool (S k)) := BK.c h k (by simp [hk])
theorem BB.f {w : World} {g n : Nat} {S : Nat → Bool} (h : BB w g n S) {k : Nat} (hk : k < n) : w.frozen? ⟨g, k, none⟩ = false := BK.f (x := .bool (S k)) h k (by simp [hk])
theorem BB.keep {v w : World} {g n : Nat} {S : Nat → Bool} (h : BB v g n S) (hb : Below v.heap.size v w) : BB w g n S := BK.keep h hb
theorem BB.cong {v : World} {g n : Nat} {S T : Nat → Bool} (h : BB v g n S) (e : ∀ k, k < n → S k = T k) : BB v g n T := by
  unfold BB at h ⊢
  have : (List.range n).map (fun k => Value.bool (T k)) = (List.range n).map (fun k => Value.bool (S k)) := List.map_congr_left fun k hk => by rw [e k (by simpa using hk)]
  rw [this]; exact h
theorem BB.set {v : World} {g n : Nat} {S : Nat → Bool} (h : BB v g n S) (k : Nat) (x : Bool) : BB (v.setCell ⟨g, k, none⟩ (.bool x)) g n (As.upd S k x) := by
  have hb := BK.set h k (.bool x)
  have e : ((List.range n).map fun k => Value.bool (S k)).set k (.bool x) = (List.range n).map (fun i => Value.bool (As.upd S k x i)) := List.ext_getElem (by simp) fun j h1 h2 => by
    simp only [List.getElem_set, List.getElem_map, List.getElem_range, As.upd]
    by_cases e : k = j
    · rw [if_pos e, if_pos e.symm]
    · rw [if_neg e, if_neg (fun x => e x.symm)]
  rw [e] at hb
  exact hb
theorem BB.new (v : World) (n : Nat) (t : TypeId) : BB (v.alloc (.cells (Array.replicate n (Value.bool false)) t)) v.heap.size n (fun _ => false) := by
  unfold BB
  have e : (List.range n).map (fun _ => Value.bool false) = List.replicate n (.bool false) := List.ext_getElem (by simp) fun k h1 h2 => by simp
  rw [e, ← List.toArray_replicate]
  exact BK.new _ _ _
theorem bools_make (n : Nat) (hn : n ≤ 1000) (v : World) : Sem.run Tryz.prog (Instr.makeSlice 108 (.int .i64 (n : Int)) (.int .i64 (n : Int))) v = .ok (.slice (some ⟨v.heap.size, 0, none⟩) n n) (v.alloc (.cells (Array.replicate n (Value.bool false)) 4)) := by
  have h := run_make_row' (P := Tryz.prog) 108 4 (.bool false) 1 (by kernel_rfl) (by kernel_rfl) rfl .i64 .i64 n (by omega) (by omega) v
  have e : madeCells #[Value.bool false] n = Array.replicate n (Value.bool false) := by
    apply Array.ext
    · simp [madeCells]
    · intro i h1 h2
      simp [madeCells, Nat.mod_one]
  rw [e] at h
  exact h
theorem gby_trans {w W W' : World} {g : Nat} (h : w.grownBy W (some g)) (k : W.grownBy W' (some g)) : w.grownBy W' (some g) :=
  ⟨k.os.trans h.os, k.tape.trans h.tape, k.output.trans h.output, Nat.le_trans h.size k.size, fun b hb hne => (k.block b (Nat.lt_of_lt_of_le hb h.size) hne).trans (h.block b hb hne)⟩
theorem gby_drewN {w W : World} {g : Option Nat} (h : w.grownBy W g) (k : Nat) : w.grownBy (W.drewN k) g := ⟨h.os, h.tape, h.output, h.size, h.block⟩
theorem gby_drew {w W : World} {g : Option Nat} (h : w.grownBy W g) : w.grownBy W.drew g := ⟨h.os, h.tape, h.output, h.size, h.block⟩
theorem below_gby {w W W' : World} {g : Nat} (h : Below w.heap.size w W) (k : W.grownBy W' (some g)) (hg : w.heap.size ≤ g) : Below w.heap.size w W' := h.grown k h.size (fun j e => by injection e with e; omega)
/-- What Link gives. -/
def LinkQ (g n : Nat) (S : Nat → Bool) (r : Int) (w : World) (e : Ending) (w' : World) : Prop := e = .returned (.int .i64 r) ∧ w.grownBy w' (some g) ∧ BB w' g n S
set_option maxRecDepth 100000 in
set_option maxHeartbeats 8000000 in
theorem rLink_any (w0 : World) (A : Option Addr) (cv : Nat) (V : List (List Int)) (B : Option Addr) (ca : Nat) (b : List Nat) (g cg tg : Nat) (ok : As.Ok V) (hb : As.Top V b) (hM : IsM w0 A V) (hI : IsI w0 B (As.al b)) (hg : w0.heap.size ≤ g) :
    ∀ (f : Nat), f ≤ 6 → ∀ (S : Nat → Bool) (x : Nat) (w : World), Below w0.heap.size w0 w → BB w g V.length S → x < V.length → S x = false → As.cnt S V.length ≤ f →
      Calls Tryz.prog 79 #[.slice A V.length cv, .slice B V.length ca, .int .i64 x, .int .i64 tg, .slice (some ⟨g, 0, none⟩) V.length cg] w (LinkQ g V.length S (As.lk V b tg f S x) w) := by
  have n1 := ok.n1
  have n6 := ok.n6
  obtain ⟨q1, q2⟩ := As.perm_lt hb.perm
  obtain ⟨ob, off, rfl, hrows⟩ := hM (by omega)
  obtain ⟨ab, ao, rfl, hac⟩ := hI.1 (by rw [As.al_len]; omega)
  have HR := Lib.hid hrows
  have HA := Lib.hid (show ∀ i, i < V.length → w0.cell? ⟨ab, ao + i, none⟩ = some (.int .i64 ((b.getD i 0 : Nat) : Int)) from fun i hi => by
    have := hac i (by rw [As.al_len]; omega)
    rwa [As.el_al] at this)
  have HOKV := Lib.hid ok
  have HTOP := Lib.hid hb
  clear hM hI hrows hac q1 q2 ok hb
  intro f
  induction f with
  | zero =>
    intro _ S x w _ _ hx hS hc
    exact absurd (As.cnt_pos hx hS) (by omega)
  | succ f ih =>
    intro hf6 S x w hbb hbf hx hS hc
    have IH := Lib.hid (ih (by omega))
    have HF5 := Lib.hid hf6
    clear ih hf6
    by_cases hxt : x = tg
    · have e0 : ((x : Int) == (tg : Int)) = true := by rw [beq_iff_eq]; omega
      have hr : As.lk V b tg (f + 1) S x = 0 := by simp only [As.lk]; rw [if_pos hxt]
      rw [hr]
      have HBF := Lib.hid hbf
      clear hbf hr hxt hS
      go_enter Tryz.func79, Tryz.ntmps79
      go_wp2_with fail
      go_ret
      exact ⟨rfl, gby_refl _ _, HBF.out⟩
    · have e0 : ((x : Int) == (tg : Int)) = false := by rw [beq_eq_false_iff_ne]; omega
      have hr : As.lk V b tg (f + 1) S x = ((List.range V.length).foldl (As.stp (As.upd S x true) (fun j => As.wt V b x j + As.lk V b tg f (As.upd S x true) j)) (0, false)).1 := by simp only [As.lk]; rw [if_neg hxt]
      have HRES := Lib.hid hr
      have hcu := As.cnt_upd hx hS
      have HBACK := Lib.hid (show ∀ i, As.upd (As.upd S x true) x false i = S i from fun i => by
        unfold As.upd
        by_cases e : i = x
        · subst e; rw [if_pos rfl, hS]
        · rw [if_neg e, if_neg e])
      have hxb := HTOP.out.mem.2 hx
      have hio : b.idxOf x < b.length := List.idxOf_lt_length_iff.2 hxb
      have hgo : b.getD (b.idxOf x) 0 = x := by rw [As.getD_lt hio]; exact List.getElem_idxOf hio
      have HNE := Lib.hid (show ∀ m, m < V.length → b.getD m 0 = x → m = b.idxOf x from fun m hm he => by
        have := As.idxOf_getD HTOP.out.nd (i := m) (by rw [HTOP.out.len]; exact hm)
        rw [he] at this; exact this.symm)
      have HWT := Lib.hid (show ∀ y, As.wt V b x y = As.vl V (b.idxOf x) y - As.vl V (b.idxOf x) x from fun y => rfl)
      have hol : b.idxOf x < V.length := by rw [← HTOP.out.len]; exact hio
      have HBF := Lib.hid hbf
      have HBB := Lib.hid hbb
      generalize b.idxOf x = ow at *
      have HGO := Lib.hid hgo
      clear hbf hbb hr hxt hS hxb hio hgo
      go_enter Tryz.func79, Tryz.ntmps79
      go_wp2_with fail
      go_loop [11] (fun i => ∃ m : Nat, m ≤ ow ∧ i = .int .i64 m) (fun i => ow - (intOf i).toNat)
      case atStart => exact ⟨0, Nat.zero_le _, rfl⟩
      case round =>
        obtain ⟨m, hm, rfl⟩ := hrel
        have c1 := keepC HBB.out (HA.out m (by omega))
        by_cases hmo : m = ow
        · subst hmo
          rw [HGO.out] at c1
          have d1 : ((x : Int) != (x : Int)) = false := by simp
          obtain ⟨R, c, hc1, hrl, hI⟩ := HR.out m hol
          rw [HOKV.out.row m hol] at hc1
          obtain ⟨rb, ro, rfl, hcs⟩ := hI.1 (by rw [HOKV.out.row m hol]; omega)
          have HC1 := Lib.hid hc1
          have HCS := Lib.hid (show ∀ j, j < V.length → w0.cell? ⟨rb, ro + j, none⟩ = some (.int .i64 (As.vl V m j)) from fun j hj => hcs j (by rw [HOKV.out.row m hol]; omega))
          have x1 := HBF.out.c hx
          have x2 := HBF.out.f hx
          have HS1 := Lib.hid (HBF.out.set x true)
          have HG1 := Lib.hid (gby_set (o := x) (gby_refl w (some g)) (.bool true))
          obtain ⟨vx, hvx⟩ : ∃ vx, As.vl V m x = vx := ⟨_, rfl⟩
          have HVX := Lib.hid hvx
          have bx := HOKV.out.bd m x
          rw [hvx] at bx
          obtain ⟨bx1, bx2⟩ := bx
          generalize hS' : As.upd S x true = S' at *
          have HSTF := Lib.hid (show ∀ k, (List.range (k + 1)).foldl (As.stp S' (fun j => As.wt V b x j + As.lk V b tg f S' j)) (0, false) = As.stp S' (fun j => As.wt V b x j + As.lk V b tg f S' j) ((List.range k).foldl (As.stp S' (fun j => As.wt V b x j + As.lk V b tg f S' j)) (0, false)) k from fun k => by rw [List.range_succ, List.foldl_append]; rfl)
          have HSX := Lib.hid hS'
          clear hcs hI hrl hc1 hvx hS'
          go_wp2_with fail
          clear c1 d1 x1 x2
          go_loopw [12, 13, 14] (fun mo fo j W => ∃ (k : Nat) (st : Int × Bool), k ≤ V.length ∧ j = .int .i64 k ∧ mo = .int .i64 st.1 ∧ fo = .bool st.2 ∧ Hid ((List.range k).foldl (As.stp S' (fun j => As.wt V b x j + As.lk V b tg f S' j)) (0, false) = st) ∧ BB W g V.length S' ∧ w.grownBy W (some g)) (fun _ _ j _ => V.length - (intOf j).toNat)
          case atStart => exact ⟨0, (0, false), Nat.zero_le _, rfl, rfl, rfl, Lib.hid rfl, HS1.out, HG1.out⟩
          case round =>
            clear HS1 HG1
            obtain ⟨k, st, hk, rfl, rfl, rfl, HST, hbs, hgr⟩ := hrel
            obtain ⟨mo, fo⟩ := st
            by_cases hlt : k < V.length
            · have hbW := below_gby HBB.out hgr hg
              have s1 := hbs.c hlt
              have HNXT := Lib.hid ((HSTF.out k).trans (congrArg (fun z => As.stp S' (fun j => As.wt V b x j + As.lk V b tg f S' j) z k) HST.out))
              have HBS := Lib.hid hbs
              have HGR := Lib.hid hgr
              cases hsk : S' k
              · rw [hsk] at s1
                have hih := IH.out S' k
                have b2 := @As.lk_bd V b tg HOKV.out.bd f S' k
                have b3 := HOKV.out.bd m k
                have hcf : As.cnt S' V.length ≤ f := by omega
                have HVAL := Lib.hid (show As.wt V b x k + As.lk V b tg f S' k = As.vl V m k - vx + As.lk V b tg f S' k by rw [HWT.out, HVX.out])
                have hfc : (f : Int) * 1000000 ≤ 6000000 := by have := HF5.out; omega
                have c1 := keepC hbW HC1.out
                have c2 := keepC hbW (HCS.out k hlt)
                have c3 := keepC hbW (HCS.out x hx)
                rw [HVX.out] at c3
                have HCK := Lib.hid (HCS.out k hlt)
                have l1 := lt_of_cell c1
                have HSK := Lib.hid hsk
                obtain ⟨L, hL⟩ : ∃ L, As.lk V b tg f S' k = L := ⟨_, rfl⟩
                have HLE := Lib.hid hL
                rw [hL] at hih b2 HVAL
                generalize As.vl V m k = vk at *
                have HIH : Hid (∀ v, Below w0.heap.size w0 v → BB v g V.length S' → Calls Tryz.prog 79 #[.slice (some ⟨ob, off, none⟩) V.length cv, .slice (some ⟨ab, ao, none⟩) V.length ca, .int .i64 k, .int .i64 tg, .slice (some ⟨g, 0, none⟩) V.length cg] v (LinkQ g V.length S' L v)) := Lib.hid (fun v h1 h2 => hih v h1 h2 hlt hsk hcf)
                obtain ⟨b21, b22⟩ := b2
                obtain ⟨b31, b32⟩ := b3
                have a1 : IntKind.i64.wrap (vk - vx) = vk - vx := IntWalk.i64_in _ (by omega)
                have a2 : IntKind.i64.wrap (vk - vx + L) = vk - vx + L := IntWalk.i64_in _ (by omega)
                have j1 : (m : Int) < (V.length : Int) := by omega
                have j2 : (k : Int) < (V.length : Int) := by omega
                have j3 : (x : Int) < (V.length : Int) := by omega
                clear hih hsk hL hbs hcf
                go_upto_region 12 with fail
                go_cut [15] (fun y v => y = .int .i64 (vk - vx + L) ∧ BB v g V.length S' ∧ w.grownBy v (some g))
                case first =>
                  go_region_with (first
                    | (go_at_call 79; refine (HIH.out _ (by first | exact hbW | exact hbW.drew) (by first | exact HBS.out | exact HBS.out.keep (Below.refl _ _).drew)).mono ?_; intro e w5 hq; obtain ⟨rfl, hg5, hs5⟩ := hq; have hb5 : Below w0.heap.size w0 w5 := (by first | exact below_gby hbW hg5 hg | exact below_gby hbW.drew hg5 hg); replace c1 := keepC hb5 HC1.out; replace c2 := keepC hb5 HCK.out; replace c3 := keepC hb5 (HCS.out x hx); rw [HVX.out] at c3; replace l1 := lt_of_cell c1))
                  all_goals
                    go_wp2_with fail
                    go_meet
                    first
                      | exact ⟨rfl, hs5, gby_trans HGR.out hg5⟩
                      | exact ⟨rfl, hs5, gby_trans (gby_drew HGR.out) hg5⟩
                case rest =>
                  obtain ⟨rfl, hs6, hg6⟩ := hcut
                  have HS6 := Lib.hid hs6
                  have HG6 := Lib.hid hg6
                  have HSTP := Lib.hid (show As.stp S' (fun j => As.wt V b x j + As.lk V b tg f S' j) (mo, fo) k = if (!fo || decide (mo < vk - vx + L)) = true then (vk - vx + L, true) else (mo, fo) by
                    unfold As.stp
                    rw [if_neg (by rw [HSK.out]; simp)]
                    simp only [HLE.out, HVAL.out])
                  clear hs6 hg6 a1 a2 c1 c2 c3 l1 hbW hgr s1
                  cases fo
                  · have HN2 := Lib.hid (HNXT.out.trans (HSTP.out.trans (if_pos rfl)))
                    clear HSTP HNXT
                    go_wp2_with fail
                    go_roundw
                    case rel => exact ⟨k + 1, (vk - vx + L, true), by omega, by go_num, rfl, rfl, HN2, HS6.out, HG6.out⟩
                    case measure => simp [intOf]; omega
                  · by_cases hlm : mo < vk - vx + L
                    · have d2 : decide (mo < vk - vx + L) = true := decide_eq_true hlm
                      have HN2 := Lib.hid (HNXT.out.trans (HSTP.out.trans (if_pos (by rw [d2]; rfl))))
                      clear HSTP HNXT hlm
                      go_wp2_with fail
                      go_roundw
                      case rel => exact ⟨k + 1, (vk - vx + L, true), by omega, by go_num, rfl, rfl, HN2, HS6.out, HG6.out⟩
                      case measure => simp [intOf]; omega
                    · have d2 : decide (mo < vk - vx + L) = false := decide_eq_false hlm
                      have HN2 := Lib.hid (HNXT.out.trans (HSTP.out.trans (if_neg (by rw [d2]; simp))))
                      clear HSTP HNXT hlm
                      go_wp2_with fail
                      go_roundw
                      case rel => exact ⟨k + 1, (mo, true), by omega, by go_num, rfl, rfl, HN2, HS6.out, HG6.out⟩
                      case measure => simp [intOf]; omega
              · rw [hsk] at s1
                have HSAME := Lib.hid (HNXT.out.trans (show As.stp S' (fun j => As.wt V b x j + As.lk V b tg f S' j) (mo, fo) k = (mo, fo) by unfold As.stp; rw [if_pos hsk]))
                clear hsk HNXT hbs hgr
                go_wp2_with fail
                go_roundw
                case rel => exact ⟨k + 1, (mo, fo), by omega, by go_num, rfl, rfl, HSAME, HBS.out, HGR.out⟩
                case measure => simp [intOf]; omega
            · obtain rfl : k = V.length := by omega
              have y1 := hbs.c hx
              have y2 := hbs.f hx
              have HFIN := Lib.hid (hbs.set x false)
              have HGF := Lib.hid (gby_set (o := x) hgr (.bool false))
              have HST2 := Lib.hid (congrArg Prod.fst HST.out)
              clear hbs hgr HST
              go_wp2_with fail
              go_ret
              exact ⟨by rw [HRES.out, HST2.out]; rfl, HGF.out, HFIN.out.cong (fun i _ => HBACK.out i)⟩
        · have hne : b.getD m 0 ≠ x := fun e => hmo (HNE.out m (by omega) e)
          have d1 : (((b.getD m 0 : Nat) : Int) != (x : Int)) = true := by rw [bne_iff_ne]; omega
          generalize b.getD m 0 = y at c1 d1 hne
          clear hne
          go_wp2_with fail
          go_round
          case rel => exact ⟨m + 1, by omega, by go_num⟩
          case measure => simp [intOf]; omega
end Go.Proofs.YtncmffhoodfhjaaGreat
