/- Package trim: a round of one agent; rounds one behind the other. -/
import Derived.Test.YtpcdggkajindbaaGreatTrc
import Derived.Test.YtpcdggkajindbaaGreatTre
namespace Go.Proofs.YtpcdggkajindbaaGreat
open Go.RowKit
set_option linter.unusedSimpArgs false in
set_option maxHeartbeats 8000000 in
set_option maxRecDepth 100000 in
theorem tmplayed1_any (A : Option Addr) (ca : Nat) (cs : List CkR) (Q : Option Addr) (nq cq g off cg j : Nat) (a b len : Int) (w : World) (h : IsCs w A cs) (h0 : 0 < cs.length) (hl : (Ak.cat cs 0).len = len) (hg : w.cell? ⟨g, off, none⟩ = some (.int .i64 (j : Nat))) :
    Calls Tryz.prog 67 #[.agg #[.slice A cs.length ca, .slice Q nq cq], .slice (some ⟨g, off, none⟩) 1 cg, .agg #[.int .i64 a, .int .i64 b]] w fun e w' => e = .returned (.tuple #[.agg #[.slice A cs.length ca, .slice Q nq cq, .int .i64 (j : Nat), .int .i64 a, .int .i64 b, .int .i64 len, .int .i64 1, .int .i64 0], .int .i64 0]) ∧ Below w.heap.size w w' := by
  have en := fun v (hv : Below w.heap.size w v) => tmend_any A ca cs Q nq cq len v (h.keep hv) h0 hl
  obtain ⟨nc, hnc⟩ : ∃ z, cs.length = z := ⟨_, rfl⟩
  rw [hnc] at en ⊢
  have EN := Lib.hid en
  clear en h h0 hl hnc
  go_enter Tryz.func67, Tryz.ntmps67
  go_upto_region 1 with fail
  refine at_worldQ (fun v => Below w.heap.size w v ∧ BK v (w.heap.size) [.slice A nc ca, .slice Q nq cq] ∧ BK v (w.heap.size + 1) [.int .i64 a, .int .i64 b] ∧ BK v (w.heap.size + 2) [.slice none 0 0, .slice none 0 0, .int .i64 0, .int .i64 0, .int .i64 0, .int .i64 0, .int .i64 0, .int .i64 0] ∧ v.heap.size = w.heap.size + 3) ⟨(below_al (below_al (below_al (Below.refl _ _) _) _) _), (by have b := (((BK.new w [.slice A nc ca, .slice Q nq cq] 65).al (.cells #[.int .i64 a, .int .i64 b] 44)).al (.cells #[.slice none 0 0, .slice none 0 0, .int .i64 0, .int .i64 0, .int .i64 0, .int .i64 0, .int .i64 0, .int .i64 0] 101)); simpa only [World.size_alloc] using b), (by have b := ((BK.new (w.alloc (.cells #[.slice A nc ca, .slice Q nq cq] 65)) [.int .i64 a, .int .i64 b] 44).al (.cells #[.slice none 0 0, .slice none 0 0, .int .i64 0, .int .i64 0, .int .i64 0, .int .i64 0, .int .i64 0, .int .i64 0] 101)); simpa only [World.size_alloc] using b), (by have b := (BK.new ((w.alloc (.cells #[.slice A nc ca, .slice Q nq cq] 65)).alloc (.cells #[.int .i64 a, .int .i64 b] 44)) [.slice none 0 0, .slice none 0 0, .int .i64 0, .int .i64 0, .int .i64 0, .int .i64 0, .int .i64 0, .int .i64 0] 101); simpa only [World.size_alloc] using b), by simp only [World.size_alloc]⟩ (fun V hS => ?_)
  obtain ⟨hbb, B0, B1, B2, hVs⟩ := hS
  go_step3
  go_upto_region 2 with fail
  have p0 := B0.c 0 rfl
  have p1 := B0.c 1 rfl
  have f0 := B1.c 0 rfl
  have f1 := B1.c 1 rfl
  have gg := keepC hbb hg
  have hgl := lt_of_cell hg
  refine wp_region_noPanic ?_
  refine wp_region_held_drew (S := (GB (fun k => k = w.heap.size + 2) V)) (by kernel_rfl) ((GB.refl _ _).drew) (fun hHeld => ?_)
  refine at_anyH (fun v => GB (fun k => k = w.heap.size + 2) V v ∧ BK v (w.heap.size + 2) [.slice none 0 0, .slice none 0 0, .int .i64 0, .int .i64 0, .int .i64 0, .int .i64 0, .int .i64 0, .int .i64 0]) ⟨hHeld, B2.drew⟩ (fun wt0 hNew => ?_)
  clear hHeld B2
  obtain ⟨hHeld, B2⟩ := hNew
  refine tkn 0 ?vt1 rfl ?hyt1 hHeld ?restt1
  case hyt1 => (intro w hSw; have kp0 := hSw.cell (by omega) p0; have kp1 := hSw.cell (by omega) p1; have kgg := hSw.cell (by omega) gg; have kf0 := hSw.cell (by omega) f0; have kf1 := hSw.cell (by omega) f1; go_simp; first | done | (with_reducible rfl))
  try simp only [PPz]
  refine tkn 1 ?vt2 rfl ?hyt2 hHeld ?restt2
  case hyt2 => (intro w hSw; go_simp; first | done | (with_reducible rfl))
  try simp only [PPz]
  refine tkn 2 ?vt3 rfl ?hyt3 hHeld ?restt3
  case hyt3 => (intro w hSw; go_simp; first | done | (with_reducible rfl))
  try simp only [PPz]
  refine tkn 3 ?vt4 rfl ?hyt4 hHeld ?restt4
  case hyt4 => (intro w hSw; have kp0 := hSw.cell (by omega) p0; have kp1 := hSw.cell (by omega) p1; have kgg := hSw.cell (by omega) gg; have kf0 := hSw.cell (by omega) f0; have kf1 := hSw.cell (by omega) f1; go_simp; first | done | (with_reducible rfl))
  try simp only [PPz]
  refine tkn 4 ?vt5 rfl ?hyt5 hHeld ?restt5
  case hyt5 => (intro w hSw; have kp0 := hSw.cell (by omega) p0; have kp1 := hSw.cell (by omega) p1; have kgg := hSw.cell (by omega) gg; have kf0 := hSw.cell (by omega) f0; have kf1 := hSw.cell (by omega) f1; go_simp; first | done | (with_reducible rfl))
  try simp only [PPz]
  refine tkn 5 ?vt6 rfl ?hyt6 hHeld ?restt6
  case hyt6 => (intro w hSw; have kp0 := hSw.cell (by omega) p0; have kp1 := hSw.cell (by omega) p1; have kgg := hSw.cell (by omega) gg; have kf0 := hSw.cell (by omega) f0; have kf1 := hSw.cell (by omega) f1; go_simp; first | done | (with_reducible rfl))
  try simp only [PPz]
  refine rdy1 6 rfl (fun K hK => ?_)
  go_simp
  refine (EN.out _ (hHeld.toBelow hbb (fun k hk => by omega) (by omega))).mono ?_
  rintro e wt7 ⟨rfl, hb3⟩
  go_wp2_with fail
  refine hK.out _ _ (hHeld.below hb3) (fun hNew => ?_)
  replace B2 := B2.keep hb3
  clear hb3
  clear hHeld hK K
  have hHeld := hNew
  clear hNew
  try simp only [PPz]
  refine tkn 7 ?vt8 rfl ?hyt8 hHeld ?restt8
  case hyt8 => (intro w hSw; go_simp; first | done | (with_reducible rfl))
  try simp only [PPz]
  refine tkn 8 ?vt9 rfl ?hyt9 hHeld ?restt9
  case hyt9 => (intro w hSw; go_simp; first | done | (with_reducible rfl))
  try simp only [PPz]
  refine rdy1 9 rfl (fun K hK => ?_)
  have n0 := B2.c 0 rfl
  have f0 := B2.f 0 rfl
  have n1 := B2.c 1 rfl
  have f1 := B2.f 1 rfl
  have n2 := B2.c 2 rfl
  have f2 := B2.f 2 rfl
  have n3 := B2.c 3 rfl
  have f3 := B2.f 3 rfl
  have n4 := B2.c 4 rfl
  have f4 := B2.f 4 rfl
  have n5 := B2.c 5 rfl
  have f5 := B2.f 5 rfl
  have n6 := B2.c 6 rfl
  have f6 := B2.f 6 rfl
  have n7 := B2.c 7 rfl
  have f7 := B2.f 7 rfl
  go_simp
  clear n0 f0 n1 f1 n2 f2 n3 f3 n4 f4 n5 f5 n6 f6 n7 f7
  refine hK.out _ _ ((((((((hHeld.set (.inl rfl) _).set (.inl rfl) _).set (.inl rfl) _).set (.inl rfl) _).set (.inl rfl) _).set (.inl rfl) _).set (.inl rfl) _).set (.inl rfl) _) (fun hNew => ?_)
  clear hHeld hK K
  have hHeld := hNew
  clear hNew
  try simp only [PPz]
  refine at_anyH (fun v => GB (fun k => k = w.heap.size + 2) V v ∧ BK v (w.heap.size + 2) [.slice A nc ca, .slice Q nq cq, .int .i64 (j : Nat), .int .i64 a, .int .i64 b, .int .i64 len, .int .i64 1, .int .i64 0]) ⟨hHeld, ((((((((B2.set 0 _).set 1 _).set 2 _).set 3 _).set 4 _).set 5 _).set 6 _).set 7 _)⟩ (fun wt10 hS => ?_)
  clear hHeld B2
  obtain ⟨hHeld, B2⟩ := hS
  refine tkn 10 ?vt11 rfl ?hyt11 hHeld ?restt11
  case hyt11 => (intro w hSw; go_simp; first | done | (with_reducible rfl))
  try simp only [PPz]
  refine wpAnyH_done (by kernel_rfl) ?_ _
  refine NoPanic.normal ?_
  have hbb2 := hHeld.toBelow hbb (fun k hk => by omega) (by omega)
  have r0 := B2.c 0 rfl
  have r1 := B2.c 1 rfl
  have r2 := B2.c 2 rfl
  have r3 := B2.c 3 rfl
  have r4 := B2.c 4 rfl
  have r5 := B2.c 5 rfl
  have r6 := B2.c 6 rfl
  have r7 := B2.c 7 rfl
  go_wp2_with fail
  try rw [Exit.noGoto_ret]
  exact bodyPost_ret (v := .tuple #[.agg #[.slice A nc ca, .slice Q nq cq, .int .i64 (j : Nat), .int .i64 a, .int .i64 b, .int .i64 len, .int .i64 1, .int .i64 0], .int .i64 0]) (by simp [results, Tryz.results67, go_sem, r0, r1, r2, r3, r4, r5, r6, r7]) rfl ⟨rfl, hbb2⟩
namespace Ch
/-- What the iterator hands on: a desk, and a turn. -/
structure El (nn : Nat) where
  A : Option Addr
  m : Nat
  ca : Nat
  Q : Option Addr
  nq : Nat
  cq : Nat
  ag : Nat
  a : Int
  b : Int
  x : Int
  y : Int
  t : Nat
  hag : ag < nn
/-- A turn. -/
structure Tn where
  ag : Nat
  a : Int
  b : Int
  x : Int
  y : Int
  t : Nat
def El.rv {nn : Nat} (e : El nn) : Value := .agg #[.slice e.A e.m e.ca, .slice e.Q e.nq e.cq, .int .i64 (e.ag : Nat), .int .i64 e.a, .int .i64 e.b, .int .i64 e.x, .int .i64 e.y, .int .i64 (e.t : Nat)]
def El.enc {nn : Nat} (e : El nn) : Array Value := #[e.rv, .int .i64 0]
def El.tn {nn : Nat} (e : El nn) : Tn := ⟨e.ag, e.a, e.b, e.x, e.y, e.t⟩
/-- Between two rounds: from where, who is left, the log. -/
structure St where
  a : Int
  b : Int
  l : List Nat
  L : List Qr
section
variable (D : List CkD) (n len : Int)
def rout (s : St) : Nat × Nat × List Qr := if s.l.length = 1 then (s.l.getD 0 0, 0, s.L) else scan D n s.a s.b (s.l.drop 1) (s.l.getD 0 0) 0 (s.L ++ [qM D n s.a s.b (s.l.getD 0 0)])
def rto (s : St) : Int × Int := if s.l.length = 1 then (len, 1) else ((mkQ D n s.a s.b (rout D n s).1).1, (mkQ D n s.a s.b (rout D n s).1).2.1)
def rtn (s : St) : Tn := ⟨(rout D n s).1, s.a, s.b, (rto D n len s).1, (rto D n len s).2, (rout D n s).2.1⟩
def rnx (s : St) : St := ⟨(rto D n len s).1, (rto D n len s).2, s.l.eraseIdx (s.l.idxOf (rout D n s).1), (rout D n s).2.2⟩
def sts (s : St) : Nat → St
  | 0 => s
  | k + 1 => rnx D n len (sts s k)
structure SGood (s : St) : Prop where
  nd : s.l.Nodup
  ag : ∀ j ∈ s.l, j < D.length
  fit : 2 ≤ s.l.length → RFit D n s.a s.b s.l
  ia : I64 s.a
  ib : I64 s.b
  lg : s.L.length + 2 * s.l.length ≤ 2001
end
theorem scan_mem {D : List CkD} {n a b : Int} : ∀ (r : List Nat) (i t : Nat) (L : List Qr), (scan D n a b r i t L).1 = i ∨ (scan D n a b r i t L).1 ∈ r
  | [], i, t, L => .inl rfl
  | j :: r, i, t, L => by
    unfold scan
    split
    · rcases scan_mem r j (t + 1) (L ++ [qV D n a b i j] ++ [qM D n a b j]) with h | h
      · exact .inr (by rw [h]; simp)
      · exact .inr (List.mem_cons_of_mem _ h)
    · rcases scan_mem r i t (L ++ [qV D n a b i j]) with h | h
      · exact .inl h
      · exact .inr (List.mem_cons_of_mem _ h)
theorem rout_mem {D : List CkD} {n : Int} {s : St} (h : 0 < s.l.length) : (rout D n s).1 ∈ s.l := by
  unfold rout
  have h0 := getD_mem (l := s.l) (k := 0) h
  split
  · exact h0
  · rcases scan_mem (D := D) (n := n) (a := s.a) (b := s.b) (s.l.drop 1) (s.l.getD 0 0) 0 (s.L ++ [qM D n s.a s.b (s.l.getD 0 0)]) with e | e
    · rw [e]; exact h0
    · exact List.mem_of_mem_drop e
end Ch
/-- What a round gives, whoever takes part. -/
def PxQ (D : List CkD) (o : Nat × Nat × List Qr) (a b x y : Int) (lo : Nat) (Wd : World) (w : World) (e : Ending) (w' : World) : Prop :=
  ∃ (A : Option Addr) (m ca : Nat) (Q : Option Addr) (nq cq : Nat) (cs : List CkR) (lo2 : Nat) (Wd2 : World), e = .returned (.tuple #[.agg #[.slice A m ca, .slice Q nq cq, .int .i64 (o.1 : Nat), .int .i64 a, .int .i64 b, .int .i64 x, .int .i64 y, .int .i64 (o.2.1 : Nat)], .int .i64 0]) ∧ Below w.heap.size w w' ∧ m = cs.length ∧ nq = o.2.2.length ∧ cs.map Ak.dat = D ∧ FD Wd2 lo2 A ca cs Q cq o.2.2 ∧ Mid lo2 Wd2 w' ∧ ∀ k, lo2 ≤ k → k < Wd2.heap.size → (lo ≤ k ∧ k < Wd.heap.size) ∨ w.heap.size ≤ k
theorem tmplayedx_any (D : List CkD) (n len : Int) (s : Ch.St) (A : Option Addr) (ca : Nat) (cs : List CkR) (Q : Option Addr) (cq g cg lo : Nat) (Wd w : World) (hfd : FD Wd lo A ca cs Q cq s.L) (hm : Mid lo Wd w) (hD : cs.map Ak.dat = D) (hc : Ak.chkS D 0 = 0) (hn : n = (D.length : Nat)) (hlen : (Ak.dAt D 0).1 = len)
    (hB : BK w g ((s.l.map fun (j : Nat) => (j : Int)).map (Value.int .i64))) (h1 : 1 ≤ s.l.length) (h6 : s.l.length ≤ 6) (G : Ch.SGood D n s) :
    Calls Tryz.prog 67 #[.agg #[.slice A cs.length ca, .slice Q s.L.length cq], .slice (some ⟨g, 0, none⟩) s.l.length cg, .agg #[.int .i64 s.a, .int .i64 s.b]] w (PxQ D (Ch.rout D n s) s.a s.b (Ch.rto D n len s).1 (Ch.rto D n len s).2 lo Wd w) := by
  have hf := hfd.mid hm
  have hgc : ∀ k, k < s.l.length → w.cell? ⟨g, 0 + k, none⟩ = some (.int .i64 ((s.l.getD k 0 : Nat) : Int)) := fun k hk => by
    have := (bk_int hB (k := k) (by simpa using hk)).1
    rw [Nat.zero_add, this]
    simp [hk]
  have hgd := Ak.chkS_good hc
  have hcl : cs.length = D.length := by rw [← hD, List.length_map]
  by_cases e1 : s.l.length = 1
  · have hc0 : (Ak.cat cs 0).len = len := by
      rw [← hlen, ← hD, Ak.dAt_map cs (by have := hgd.l0; omega)]
      rfl
    have := tmplayed1_any A ca cs Q s.L.length cq g 0 cg (s.l.getD 0 0) s.a s.b len w hf.isCs (by have := hgd.l0; omega) hc0 (hgc 0 (by omega))
    have eo : Ch.rout D n s = (s.l.getD 0 0, 0, s.L) := by unfold Ch.rout; rw [if_pos e1]
    have et : Ch.rto D n len s = (len, 1) := by unfold Ch.rto; rw [if_pos e1]
    rw [eo, et, e1]
    refine this.mono ?_
    rintro e w' ⟨rfl, hb⟩
    exact ⟨A, cs.length, ca, Q, s.L.length, cq, cs, lo, Wd, rfl, hb, rfl, rfl, hD, hfd, hm.call hb, fun k h1 h2 => .inl ⟨h1, h2⟩⟩
  · have eo : Ch.scan D n s.a s.b (s.l.drop 1) (s.l.getD 0 0) 0 (s.L ++ [Ch.qM D n s.a s.b (s.l.getD 0 0)]) = Ch.rout D n s := by unfold Ch.rout; rw [if_neg e1]
    have et : Ch.rto D n len s = ((Ch.mkQ D n s.a s.b (Ch.rout D n s).1).1, (Ch.mkQ D n s.a s.b (Ch.rout D n s).1).2.1) := by unfold Ch.rto; rw [if_neg e1]
    have := tmplayed_any A ca cs Q s.L cq g 0 cg s.l D n s.a s.b (Ch.rout D n s) w hf.isCs hf.isQs hD hc hn hgc (by omega) h6 G.lg G.ia G.ib (G.fit (by omega)) eo
    rw [et]
    refine this.mono ?_
    rintro e w' ⟨A2, m, ca2, Q2, nq, cq2, cs2, rfl, hb, h1, h2, h3, h4⟩
    exact ⟨A2, m, ca2, Q2, nq, cq2, cs2, w.heap.size, w', rfl, hb, h1, h2, h3, h4, Mid.refl _ _, fun k h1 h2 => .inr h1⟩
end Go.Proofs.YtpcdggkajindbaaGreat

