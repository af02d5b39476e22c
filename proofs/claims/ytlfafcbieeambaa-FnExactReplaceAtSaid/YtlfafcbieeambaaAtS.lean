/- Contract of spec.l04At: where the node lies to which a path leads. -/
import Derived.Test.YtlfafcbieeambaaPath
import Derived.Test.YtlfafcbieeambaaMarkW
import Derived.IntWalk
import Derived.Deep.QuietTactic
import Derived.BigQuiet
namespace Go.Proofs.Ytlfafcbieeambaa
open Go.RowKit

/-- The place to which a path leads. -/
def AtPath (w : World) : List Int → Nat → Nat → Fo → Option Addr → Nat → Nat → Prop
  | [], B, o, _, _, B', o' => B' = B ∧ o' = o
  | i :: r, _, _, f, A, B', o' => ∃ (b1 o1 : Nat) (k n : Int) (ks rest : Fo) (A1 : Option Addr) (C1 : Nat), 0 ≤ i ∧ i < (f.len : Int) ∧ A = some ⟨b1, o1, none⟩ ∧ f.drop i.toNat = .cons k n ks rest ∧
      w.cell? ⟨b1, o1 + i.toNat * 3 + 2, none⟩ = some (.slice A1 ks.len C1) ∧ AtPath w r b1 (o1 + i.toNat * 3) ks A1 B' o'

def SAEnd (O : Option (Int × Int × Fo × Bool)) (Q : Nat → Nat → Prop) (w : World) (e : Ending) (w' : World) : Prop :=
  (∃ k n f b A C B o, O = some (k, n, f, b) ∧ e = .returned (.tuple #[.pointer (some ⟨B, o, none⟩), .bool b, .bool true]) ∧ w.cell? ⟨B, o, none⟩ = some (.int .i64 k) ∧ w.cell? ⟨B, o + 1, none⟩ = some (.int .i64 n) ∧ w.cell? ⟨B, o + 2, none⟩ = some (.slice A f.len C) ∧ f.Lies w A ∧ Q B o ∧ ∃ m, w' = w.drewN m) ∨
  (O = none ∧ ∃ (p : Value) (b : Bool), e = .returned (.tuple #[p, .bool b, .bool false]) ∧ ∃ m, w' = w.drewN m)


set_option maxRecDepth 100000 in
set_option maxHeartbeats 2000000 in
theorem l04At_any (xs : List Int) (hx : xs.length ≤ 9223372036854775807) (k n : Int) (f : Fo) (hm : f.nodes ≤ 1048576) (A : Option Addr) (C : Nat) (B o : Nat) (P : Option Addr) (D : Nat) (w : World) (hl : f.Lies w A) (hp : Ints w xs P)
    (p0 : w.cell? ⟨B, o, none⟩ = some (.int .i64 k)) (p1 : w.cell? ⟨B, o + 1, none⟩ = some (.int .i64 n)) (p2 : w.cell? ⟨B, o + 2, none⟩ = some (.slice A f.len C)) :
    Calls Try.prog 105 #[.pointer (some ⟨B, o, none⟩), .slice P xs.length D] w (SAEnd (walkP xs k n f false) (AtPath w xs B o f A) w) := by
  obtain ⟨O, hO⟩ : ∃ O, O = walkP xs k n f false := ⟨_, rfl⟩
  obtain ⟨Q, hQ⟩ : ∃ Q, Q = AtPath w xs B o f A := ⟨_, rfl⟩
  rw [← hO, ← hQ]
  have HO : Hid (O = walkP (xs.drop 0) k n f false) := hO
  have HQ : Hid (∀ B' o', AtPath w (xs.drop 0) B o f A B' o' → Q B' o') := by rw [hQ]; exact fun _ _ h => h
  have HP : Hid (w.cell? ⟨B, o, none⟩ = some (.int .i64 k) ∧ w.cell? ⟨B, o + 1, none⟩ = some (.int .i64 n) ∧ w.cell? ⟨B, o + 2, none⟩ = some (.slice A f.len C)) := ⟨p0, p1, p2⟩
  have HL := Lib.hid hl
  clear hl hO hQ p0 p1 p2
  go_enter Try.func105, Try.ntmps105
  go_wp2_with fail
  go_loopw [0, 7, 8] (fun p b i wr => ∃ (j m : Nat) (q : Bool) (k1 n1 : Int) (f1 : Fo) (A1 : Option Addr) (C1 B1 o1 : Nat), j ≤ xs.length ∧ p = .pointer (some ⟨B1, o1, none⟩) ∧ b = .bool q ∧ i = .int .i64 j ∧ Hid (O = walkP (xs.drop j) k1 n1 f1 q) ∧ f1.nodes ≤ 1048576 ∧ Hid (f1.Lies w A1) ∧ Hid (w.cell? ⟨B1, o1, none⟩ = some (.int .i64 k1) ∧ w.cell? ⟨B1, o1 + 1, none⟩ = some (.int .i64 n1) ∧ w.cell? ⟨B1, o1 + 2, none⟩ = some (.slice A1 f1.len C1)) ∧ Hid (∀ B' o', AtPath w (xs.drop j) B1 o1 f1 A1 B' o' → Q B' o') ∧ Hid (wr = w.drewN m)) (fun _ _ i _ => xs.length - (intOf i).toNat)
  case atStart => exact ⟨0, 0, false, k, n, f, A, C, B, o, Nat.zero_le _, rfl, rfl, rfl, HO, hm, HL, HP, HQ, rfl⟩
  case round =>
    obtain ⟨j, m, q, k1, n1, f1, A1, C1, B1, o1, hj, rfl, rfl, rfl, hO, hm1, hl1, hP, hQ, hw⟩ := hrel
    clear HO HL HQ HP
    have x0 : wr.cell? ⟨B1, o1, none⟩ = some (.int .i64 k1) := by rw [hw.out]; exact hP.out.1
    have x2 : wr.cell? ⟨B1, o1 + 2, none⟩ = some (.slice A1 f1.len C1) := by rw [hw.out]; exact hP.out.2.2
    have hln := f1.len_le_nodes
    by_cases hjl : j < xs.length
    · obtain ⟨pb, po, rfl, hc⟩ := hp (by rintro rfl; simp at hjl)
      have pc0 := hc j hjl
      have pc : wr.cell? ⟨pb, po + j, none⟩ = some (.int .i64 (nth xs j)) := by rw [hw.out]; exact pc0
      clear pc0 hc
      obtain ⟨x, hx1⟩ : ∃ x : Int, x = nth xs j := ⟨_, rfl⟩
      rw [← hx1] at pc
      obtain ⟨q1, hq1⟩ : ∃ q1 : Bool, q1 = inB x 0 ((f1.len : Int) - 1) := ⟨_, rfl⟩
      have KB : Hid (∀ W : World, Calls Try.prog 114 #[.int .i64 x, .int .i64 0, .int .i64 ((f1.len : Int) - 1)] W fun e w' => e = .returned (.bool q1) ∧ w' = W) := fun W => by rw [hq1]; exact (in_any x 0 ((f1.len : Int) - 1) W).mono fun e w' ⟨he, hw⟩ => ⟨he, hw.symm⟩
      have HX := Lib.hid hx1
      clear hx1
      have hj0 : (0 : Int) ≤ (j : Int) := Int.natCast_nonneg _
      have hj1 : (j : Int) < (xs.length : Int) := by omega
      have wl : IntKind.i64.wrap ((f1.len : Int) - 1) = (f1.len : Int) - 1 := IntWalk.i64_in _ (by omega)
      by_cases hin : 0 ≤ x ∧ x < (f1.len : Int)
      · have hq2 : q1 = true := by rw [hq1]; exact decide_eq_true (by omega)
        subst hq2
        obtain ⟨k2, n2, f2, r2, e1, _⟩ := f1.drop_lt x.toNat (by omega)
        obtain ⟨b', o', rfl, hat⟩ := hl1.out (by rintro rfl; simp [Fo.len] at hin; omega)
        have hat2 := Fo.at_drop hat x.toNat
        rw [e1] at hat2
        obtain ⟨c0, c1, ⟨A', C', c2, hl2'⟩, _⟩ := hat2
        have hnd := f1.nodes_drop x.toNat
        rw [e1] at hnd
        simp only [Fo.nodes] at hnd
        have hO2 : Hid (O = walkP (xs.drop (j + 1)) k2 n2 f2 (q || k1 == 5)) := by
          show _ = _; rw [hO.out]; exact walkP_step hjl (by rw [← HX.out]; exact hin.1) (by rw [← HX.out]; exact hin.2) (by rw [← HX.out]; exact e1)
        have HL2 : Hid (f2.Lies w A') := hl2'
        have HP2 : Hid (w.cell? ⟨b', o' + x.toNat * 3, none⟩ = some (.int .i64 k2) ∧ w.cell? ⟨b', o' + x.toNat * 3 + 1, none⟩ = some (.int .i64 n2) ∧ w.cell? ⟨b', o' + x.toNat * 3 + 2, none⟩ = some (.slice A' f2.len C')) := ⟨c0, c1, c2⟩
        have HQ2 : Hid (∀ B' o2, AtPath w (xs.drop (j + 1)) b' (o' + x.toNat * 3) f2 A' B' o2 → Q B' o2) := fun B' o2 h => hQ.out B' o2 (by
          rw [drop_getD xs j hjl, ← HX.out]
          exact ⟨b', o', k2, n2, f2, r2, A', C', hin.1, hin.2, rfl, e1, c2, h⟩)
        obtain ⟨hi0, hi1⟩ := hin
        have HN : f2.nodes ≤ 1048576 := by omega
        clear hq1 c0 c1 c2 hl2' hat e1 hnd hO hP hQ
        cases q
        · by_cases h5 : k1 = 5
          · have t5 : (k1 == 5) = true := by simp [h5]
            have hO3 : Hid (O = walkP (xs.drop (j + 1)) k2 n2 f2 true) := by show _ = _; rw [hO2.out, t5]; rfl
            have H5 : decide (k1 = 5) = true := decide_eq_true h5
            clear hO2 h5
            go_wp2_with fail
            go_quiet ((go_at_call 114; exact Calls.quiet_of_same (KB.out _)))
            go_wp2_with fail
            go_quiet (fail)
            go_wp2_with fail
            go_roundw
            case rel => exact ⟨j + 1, _, true, k2, n2, f2, A', C', b', o' + x.toNat * 3, by omega, rfl, rfl, by go_num, hO3, HN, HL2, HP2, HQ2, (by show _ = _; rw [hw.out]; simp; rfl)⟩
            case measure => simp [intOf]; omega
          · have t5 : (k1 == 5) = false := by rw [beq_eq_false_iff_ne]; exact h5
            have hO3 : Hid (O = walkP (xs.drop (j + 1)) k2 n2 f2 false) := by show _ = _; rw [hO2.out, t5]; rfl
            have H5 : decide (k1 = 5) = false := decide_eq_false h5
            clear hO2 h5
            go_wp2_with fail
            go_quiet ((go_at_call 114; exact Calls.quiet_of_same (KB.out _)))
            go_wp2_with fail
            go_quiet (fail)
            go_wp2_with fail
            go_roundw
            case rel => exact ⟨j + 1, _, false, k2, n2, f2, A', C', b', o' + x.toNat * 3, by omega, rfl, rfl, by go_num, hO3, HN, HL2, HP2, HQ2, (by show _ = _; rw [hw.out]; simp; rfl)⟩
            case measure => simp [intOf]; omega
        · have hO3 : Hid (O = walkP (xs.drop (j + 1)) k2 n2 f2 true) := hO2
          clear hO2
          go_wp2_with fail
          go_quiet ((go_at_call 114; exact Calls.quiet_of_same (KB.out _)))
          go_wp2_with fail
          go_quiet (fail)
          go_wp2_with fail
          go_roundw
          case rel => exact ⟨j + 1, _, true, k2, n2, f2, A', C', b', o' + x.toNat * 3, by omega, rfl, rfl, by go_num, hO3, HN, HL2, HP2, HQ2, (by show _ = _; rw [hw.out]; simp; rfl)⟩
          case measure => simp [intOf]; omega
      · have hq2 : q1 = false := by rw [hq1]; exact decide_eq_false (by omega)
        subst hq2
        have hO2 : Hid (O = none) := by
          show _ = _; rw [hO.out]; exact walkP_no hjl (by rw [← HX.out]; exact hin)
        clear hq1 hin hO
        go_wp2_with fail
        go_quiet ((go_at_call 114; exact Calls.quiet_of_same (KB.out _)))
        go_wp2_with fail
        refine bodyPost_ret (v := .tuple #[.pointer (some ⟨B1, o1, none⟩), .bool q, .bool false]) (by simp [results, Try.results105, go_sem]) rfl ?_
        exact Or.inr ⟨hO2.out, _, _, rfl, _, (by rw [hw.out]; simp; rfl)⟩
    · obtain rfl : j = xs.length := by omega
      have hO2 : Hid (O = some (k1, n1, f1, q)) := by show _ = _; rw [hO.out]; exact walkP_end _ _ _ _ _
      clear hO
      go_wp2_with fail
      refine bodyPost_ret (v := .tuple #[.pointer (some ⟨B1, o1, none⟩), .bool q, .bool true]) (by simp [results, Try.results105, go_sem]) rfl ?_
      exact Or.inl ⟨k1, n1, f1, q, A1, C1, B1, o1, hO2.out, rfl, hP.out.1, hP.out.2.1, hP.out.2.2, hl1.out, hQ.out _ _ (by simp [AtPath]), m, hw.out⟩
end Go.Proofs.Ytlfafcbieeambaa
