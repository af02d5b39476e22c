/- A builder that a call has made: strings and numbers are written, the text is read. -/
import Derived.Test.YtcgbepmhfimbjaaDoorShelf
import Derived.Test.YtcgbepmhfimbjaaDoorTx
import Derived.Test.YtcgbepmhfimbjaaDoorSig
import Derived.Test.YtcgbepmhfimbjaaDoorSep
import Derived.Lib.Hide
namespace Go.Proofs.YtcgbepmhfimbjaaDoor
open Go.RowKit

/-- A builder in block B that holds these bytes. -/
def Bld (B : Nat) (l : List UInt8) (W : World) : Prop := Lib.IsBuilderF 71 5 B B (Lib.byteCells l) W
/-- What a call leaves that has written. -/
structure Wrote (B : Nat) (l : List UInt8) (w w' : World) : Prop where
  bld : Bld B l w'
  below : Below B w w'
  kept : Lib.OthersKept 5 (some B) w w'
theorem Bld.lt {B : Nat} {l : List UInt8} {W : World} (h : Bld B l W) : B < W.heap.size := by
  rcases h with h | h <;> exact h.lt
theorem Bld.drew {B : Nat} {l : List UInt8} {W : World} (h : Bld B l W) : Bld B l W.drew := by
  rcases h with h | h
  · exact Or.inl h.drew
  · exact Or.inr h.drew
theorem Bld.alloc {B : Nat} {l : List UInt8} {W : World} (h : Bld B l W) (o : Obj) : Bld B l (W.alloc o) := by
  rcases h with h | h
  · exact Or.inl (h.alloc o)
  · exact Or.inr (h.alloc o)
theorem Bld.fresh (w : World) : Bld w.heap.size [] (w.alloc (.cells #[.pointer none, .slice none 0 0] 71)) := Lib.IsBuilderF.of (Lib.fresh_isBuilder _ _ _)
theorem Wrote.trans {B : Nat} {l l' : List UInt8} {a b c : World} (h : Wrote B l a b) (k : Wrote B l' b c) : Wrote B l' a c := ⟨k.bld, h.below.trans k.below, h.kept.trans k.kept⟩
theorem Wrote.to {B : Nat} {l l' : List UInt8} {a b : World} (h : Wrote B l a b) (e : l = l') : Wrote B l' a b := e ▸ h
/-- .. behind a box that the caller has made. -/
theorem Wrote.behind {B : Nat} {l l0 : List UInt8} {a b : World} (h0 : Bld B l0 a) {o : Obj} (h : Wrote B l (a.alloc o) b) : Wrote B l a b :=
  ⟨h.bld, ((Below.refl B a).alloc (Nat.le_of_lt h0.lt) o).trans h.below, ((Lib.OthersKept.refl _ _ a).alloc o).trans h.kept⟩
theorem Wrote.one {B : Nat} {l : List UInt8} {a b : World} (h : Wrote B l a b) {k : Nat} {cs : Array Value} {T : TypeId} (hc : a.heap[k]? = some (.cells cs T (0, 0))) (hT : T ≠ 5) (hk : k ≠ B) : b.heap[k]? = some (.cells cs T (0, 0)) :=
  h.kept k _ hc (fun he => hk (Option.some.inj he)) (fun c fz he => by cases he; exact hT rfl)

theorem write_any {B : Nat} {l : List UInt8} (s : List UInt8) {w : World} (h : Bld B l w) (hl : l.length + s.length ≤ 140737488355328) :
    Calls Tryd.prog 63 #[.pointer (some ⟨B, 0, none⟩), str s] w fun e w' => (∃ z, e = .returned (.tuple #[.int .i64 z, .nilIface])) ∧ Wrote B (l ++ s) w w' := by
  refine (Tryd.Builder_WriteString_k B B (Lib.byteCells l) ⟨s.toArray⟩ w h (by rw [Lib.byteCells_length]; show l.length + s.toArray.size ≤ _; simpa using hl) (Nat.le_of_lt h.lt)).mono ?_
  rintro e w' ⟨rfl, hb, h1, h2⟩
  refine ⟨⟨_, rfl⟩, Or.inr ?_, h1, h2⟩
  rw [Lib.byteCells_append]
  exact hb
theorem string_any {B : Nat} {l : List UInt8} {w : World} (h : Bld B l w) :
    Calls Tryd.prog 35 #[.pointer (some ⟨B, 0, none⟩)] w fun e w' => e = .returned (str l) ∧ Below B w w' :=
  (Tryd.Builder_String_any_k B B l w h (Nat.le_of_lt h.lt)).mono fun _ _ ⟨h1, _, h2, _⟩ => ⟨h1, h2⟩
theorem formatInt_any (n : Int) (h0 : 0 ≤ n) (h1 : n < 100) (w : World) :
    Calls Tryd.prog 82 #[.int .i64 n, .int .i64 10] w fun e w' => e = .returned (str (Lib.decDigits n.toNat)) ∧ w' = w := by
  obtain ⟨m, rfl⟩ := Int.eq_ofNat_of_zero_le h0
  exact Tryd.strconv_FormatInt_10_small m (by omega) w

set_option maxHeartbeats 1000000 in
theorem writeNumber_any {B : Nat} {l : List UInt8} (s : List UInt8) (n : Int) (h0 : 0 ≤ n) (h1 : n < 100) {w : World} (h : Bld B l w) (hl : l.length + s.length + 2 ≤ 140737488355328) :
    Calls Tryd.prog 64 #[.pointer (some ⟨B, 0, none⟩), str s, .int .i64 n] w fun e w' => e = .returned (.tuple #[]) ∧ Wrote B (l ++ (s ++ Lib.decDigits n.toNat)) w w' := by
  have hd : (Lib.decDigits n.toNat).length ≤ 2 := by
    by_cases h10 : n.toNat < 10
    · rw [Lib.decDigits_one h10]; simp
    · rw [Lib.decDigits_two h10 (by omega)]; simp
  have K1 : Hid (Calls Tryd.prog 63 #[.pointer (some ⟨B, 0, none⟩), str s] w fun e w' => (∃ z, e = .returned (.tuple #[.int .i64 z, .nilIface])) ∧ Wrote B (l ++ s) w w') := write_any s h (by omega)
  have K2 : Hid (∀ W, Bld B (l ++ s) W → Calls Tryd.prog 63 #[.pointer (some ⟨B, 0, none⟩), str (Lib.decDigits n.toNat)] W fun e w' => (∃ z, e = .returned (.tuple #[.int .i64 z, .nilIface])) ∧ Wrote B (l ++ s ++ Lib.decDigits n.toNat) W w') := fun W hW => write_any _ hW (by simp only [List.length_append]; omega)
  have K3 : Hid (∀ W, Calls Tryd.prog 82 #[.int .i64 n, .int .i64 10] W fun e w' => e = .returned (str (Lib.decDigits n.toNat)) ∧ w' = W) := fun W => formatInt_any n h0 h1 W
  clear hl hd h0 h1
  generalize str (Lib.decDigits n.toNat) = v at K2 K3
  generalize str s = u at K1 ⊢
  go_enter Tryd.func64, Tryd.ntmps64
  go_wp2_with fail
  refine K1.out.mono ?_
  rintro e w1 ⟨⟨z, rfl⟩, hw1⟩
  go_wp2_with fail
  refine (K3.out _).mono ?_
  rintro e w2 ⟨rfl, rfl⟩
  go_wp2_with fail
  refine (K2.out _ hw1.bld).mono ?_
  rintro e w3 ⟨⟨z, rfl⟩, hw3⟩
  go_wp2_with fail
  go_end0
  exact ⟨rfl, (hw1.trans hw3).to (List.append_assoc ..)⟩
end Go.Proofs.YtcgbepmhfimbjaaDoor
