/- What the laid variables and the library's contracts give; package ratio's Text. -/
import Derived.Test.YtbcnngjcggddbaaDoorRat
import Derived.Test.YtbcnngjcggddbaaDoorTxt
import Derived.Test.YtbcnngjcggddbaaDoorShelf
import Derived.Lib.SmallJoins
namespace Go.Proofs.YtbcnngjcggddbaaDoor
open Go.RowKit Go.Shelf

theorem var?_below {P : Program} {B g : Nat} {W W' : World} {n : String} {cs : Array Value} (h : Below B W W') (hg : P.globalNamed n = some g) (hgB : g < B) (hv : W.var? P n = some cs) : W'.var? P n = some cs := by
  unfold World.var? at hv ⊢
  simp only [hg, Option.bind_some] at hv ⊢
  rw [h.block g hgB]
  exact hv
theorem gTab : Tryd.prog.globalNamed "internal/strconv.uint64pow10" = some 0 := by kernel_rfl
/-- What the library reads: the table of powers, the two errors, the greatest length. -/
structure Env (w : World) : Prop where
  tab : Lib.TabIs Tryd.prog w "internal/strconv.uint64pow10" .u64 Lib.pow10Tab
  tabLt : 0 < w.heap.size
  syn : ∃ t p, w.cell? ⟨2, 0, none⟩ = some (.iface t p)
  rng : ∃ t p, w.cell? ⟨3, 0, none⟩ = some (.iface t p)
  most : ∃ m, w.cell? ⟨1, 0, none⟩ = some (.int .i64 m)
theorem Env.keep {V w1 : World} (h : Env V) (hb : Below V.heap.size V w1) : Env w1 := by
  obtain ⟨h1, h2, ⟨t, p, h3⟩, ⟨t', p', h4⟩, ⟨m, h5⟩⟩ := h
  exact ⟨var?_below hb gTab h2 h1, Nat.lt_of_lt_of_le h2 hb.size, ⟨t, p, keepC hb h3⟩, ⟨t', p', keepC hb h4⟩, ⟨m, keepC hb h5⟩⟩

theorem below_grow (w : World) (k : Nat) (os : Array Obj) : Below w.heap.size w (Sort.grow (w.drewN k) os) := by
  refine ⟨rfl, rfl, rfl, ?_, ?_⟩
  · show w.heap.size ≤ (w.heap ++ os).size
    simp
  · intro j hj
    show (w.heap ++ os)[j]? = w.heap[j]?
    rw [Array.getElem?_append_left hj]

/-- strconv.FormatInt at base 10. -/
theorem format_any (n : Int) (h0 : -9223372036854775808 ≤ n) (h1 : n ≤ 9223372036854775807) (w : World) (E : Env w) :
    Calls Tryd.prog 11 #[.int .i64 n, .int .i64 10] w fun e w' => e = .returned (.string ⟨(Lib.itoa n).toArray⟩) ∧ Below w.heap.size w w' :=
  (Tryd.strconv_FormatInt_10 n h0 h1 w E.tab).mono fun _ _ ⟨he, k, os, hw⟩ => ⟨he, hw ▸ below_grow w k os⟩
/-- strings.Cut. -/
theorem cut_any (s sep : ByteArray) (w : World) (hs : s.size < 4294967281) (E : Env w) :
    Calls Tryd.prog 14 #[.string s, .string sep] w fun e w' => e = .returned (.tuple #[.string ⟨(Lib.cut s.data.toList sep.data.toList).1.toArray⟩, .string ⟨(Lib.cut s.data.toList sep.data.toList).2.1.toArray⟩, .bool (Lib.cut s.data.toList sep.data.toList).2.2]) ∧ Below w.heap.size w w' := by
  obtain ⟨m, hm⟩ := E.most
  exact (Tryd.strings_Cut s sep m w hs hm).mono fun _ _ ⟨he, n, hw⟩ => ⟨he, hw ▸ below_drewN (Below.refl _ _) n⟩
/-- What strconv.ParseInt returns: the number, and no error; or an error. -/
def PInt (r : Option Int) (e : Ending) : Prop :=
  match r with
  | some v => e = .returned (.tuple #[.int .i64 v, .nilIface])
  | none => ∃ (k : Int) (N : Nat), e = .returned (.tuple #[.int .i64 k, .iface 83 (.pointer (some ⟨N, 0, none⟩))])
theorem parse_any (s : ByteArray) (w : World) (hs : s.size < 4294967281) (E : Env w) :
    Calls Tryd.prog 15 #[.string s, .int .i64 10, .int .i64 64] w fun e w' => PInt (Rp.okOf (Lib.parseIntB 64 s.data.toList)) e ∧ Below w.heap.size w w' := by
  obtain ⟨t, p, hS⟩ := E.syn
  obtain ⟨t', p', hR⟩ := E.rng
  rcases h : Lib.parseIntB 64 s.data.toList with v | _ | _
  · refine (Tryd.strconv_ParseInt_10_at64_ok s (by omega) v h w).mono fun e w' ⟨he, hw⟩ => ⟨he, ?_⟩
    rcases hw with rfl | ⟨t, rfl⟩
    · exact Below.refl _ _
    · exact Joins.below_bytesWorld _ _ _ _ (Nat.le_refl _)
  · exact (Any.strconv_ParseInt_10_at64_syntax Tryd.laysC174 s (by omega) h (.iface t p) w hS (Or.inr ⟨t, p, rfl⟩)).mono fun e w' ⟨N, he, _, _, hb⟩ => ⟨⟨_, N, he⟩, hb⟩
  · exact (Any.strconv_ParseInt_10_at64_range Tryd.laysC174 s (by omega) h (.iface t' p') w hR (Or.inr ⟨t', p', rfl⟩)).mono fun e w' ⟨N, he, _, _, hb⟩ => ⟨⟨_, N, he⟩, hb⟩
end Go.Proofs.YtbcnngjcggddbaaDoor
