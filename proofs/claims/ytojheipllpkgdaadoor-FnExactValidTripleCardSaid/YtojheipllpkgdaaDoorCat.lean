/- Contracts of slices.Grow at a nil slice, and slices.Concat, at []int64. -/
import Derived.Test.YtojheipllpkgdaaDoorApp
import Derived.Lib.AppendZeros
namespace Go.Proofs.YtojheipllpkgdaaDoor
open Go.RowKit

set_option maxHeartbeats 1000000 in
theorem grow_any (n : Nat) (hn : n ≤ 4194304) (w : World) :
    Calls Tryd.prog 113 #[.slice none 0 0, .int .i64 n] w fun e w' => ∃ v, e = .returned v ∧ w'.ownsRow w.heap.size 2 1 v 0 (encs []) ∧ Below w.heap.size w w' := by
  by_cases h0 : n = 0
  · subst h0
    go_enter Tryd.func113, Tryd.ntmps113
    go_wp2_with fail
    go_ret
    exact ⟨_, rfl, World.ownsRow_nil _ _ _ _, Below.refl _ _⟩
  · have hp : (0 : Int) < (n : Int) := by omega
    have hb : (n : Int) ≤ 4194304 := by omega
    obtain ⟨i, hi, hz, hs, hby⟩ := info_parts Tryd.infoI
    have hrun : Hid (∀ ty : TypeId, (Builtin.append_ #[75, 3] ty #[.slice none 0 0, .int .i64 n]).run Tryd.prog w = .ok (.slice (some ⟨w.heap.size, 0, none⟩) n (grownCap w n 0 2)) (w.drew.alloc (.cells (Builtin.zeroCells (Value.int .i64 0).cells n ++ Builtin.zeroCells (Value.int .i64 0).cells (grownCap w n 0 2 - n)) 2))) :=
      fun ty => Lib.run_append_nil_zeros w 75 3 ty 2 i _ .i64 .i64 Tryd.underlying75 Tryd.underlying3 hi hz n (by omega) (by rw [hs]; omega) (by omega) (by rw [hby]; omega)
    have hge := grownCap_ge w n 0 2
    have hle := grownCap_le_maxLen w n 0 2 (by unfold maxLen; omega)
    obtain ⟨cap, hcap⟩ : ∃ cap, cap = grownCap w n 0 2 := ⟨_, rfl⟩
    obtain ⟨cs, hcs⟩ : ∃ cs, cs = Builtin.zeroCells (Value.int .i64 0).cells n ++ Builtin.zeroCells (Value.int .i64 0).cells (cap - n) := ⟨_, rfl⟩
    rw [← hcap] at hrun hge hle
    rw [← hcs] at hrun
    have hsz : cs.size = cap * 1 := by
      rw [hcs]
      simp [Builtin.zeroCells, Value.cells]
      omega
    have HZ := Lib.hid hsz
    have HC : Hid ((w.drew.alloc (.cells cs 2)).ownsRow w.heap.size 2 1 (.slice (some ⟨w.heap.size, 0, none⟩) 0 cap) 0 (encs [])) := World.ownsRow_made w.drew cs cap (Nat.le_refl _) hle HZ.out
    clear hcs hcap hsz hle h0 hi hz hs hby
    have hge' : (0 : Int) ≤ (cap : Int) := by omega
    go_enter Tryd.func113, Tryd.ntmps113
    go_wp2_with (at_builtin; refine Lib.wpList_append_run _ rfl _ _ _ _ rfl _ _ rfl rfl _ _ (hrun.out _) ?_)
    go_ret
    exact ⟨_, rfl, HC.out, ((Below.refl _ _).drew).alloc (Nat.le_refl _) _⟩

/-- Slices of integers, in a row. -/
def Rows2 (w : World) (Xs : List (List Int)) (b : Nat) : Prop := ∀ i (h : i < Xs.length), ∃ A C, w.cell? ⟨b, i, none⟩ = some (.slice A (Xs[i]).length C) ∧ Ints w Xs[i] A
theorem Rows2.below {w w' : World} {Xs : List (List Int)} {b : Nat} (h : Rows2 w Xs b) (hb : Below w.heap.size w w') : Rows2 w' Xs b := fun i hi => by
  obtain ⟨A, C, h1, h2⟩ := h i hi
  exact ⟨A, C, kc hb h1, h2.below hb⟩
def sumTo (Xs : List (List Int)) (j : Nat) : Nat := ((Xs.take j).flatten).length
theorem flat_step (Xs : List (List Int)) (j : Nat) (h : j < Xs.length) : (Xs.take (j + 1)).flatten = (Xs.take j).flatten ++ Xs[j] := by
  rw [List.take_succ_eq_append_getElem h, List.flatten_append, List.flatten_cons, List.flatten_nil, List.append_nil]
theorem sum_step (Xs : List (List Int)) (j : Nat) (h : j < Xs.length) : sumTo Xs (j + 1) = sumTo Xs j + (Xs[j]).length := by
  unfold sumTo; rw [flat_step Xs j h]; simp
theorem sum_le (Xs : List (List Int)) (j : Nat) : sumTo Xs j ≤ Xs.flatten.length := by
  have h := List.take_append_drop j Xs
  have : Xs.flatten = (Xs.take j).flatten ++ (Xs.drop j).flatten := by rw [← List.flatten_append, h]
  unfold sumTo; rw [this]; simp
theorem sum_all (Xs : List (List Int)) : sumTo Xs Xs.length = Xs.flatten.length := by simp [sumTo]

set_option maxHeartbeats 2000000 in
theorem concat_any (Xs : List (List Int)) (hF : Xs.flatten.length ≤ 2097152) (hX : Xs.length ≤ 1048576) (b C : Nat) (w : World) (hR : Rows2 w Xs b) :
    Calls Tryd.prog 111 #[.slice (some ⟨b, 0, none⟩) Xs.length C] w fun e w' => ∃ A C', e = .returned (.slice A Xs.flatten.length C') ∧ IntsIn w' Xs.flatten w.heap.size w'.heap.size A ∧ Below w.heap.size w w' := by
  have HR := Lib.hid hR; clear hR
  obtain ⟨tot, ht, htl⟩ : ∃ tot : Nat, Hid (tot = Xs.flatten.length) ∧ tot ≤ 2097152 := ⟨_, rfl, hF⟩
  have HS0 : Hid (sumTo Xs 0 = 0) := by show _ = _; simp [sumTo]
  have HSL : ∀ j, sumTo Xs j ≤ tot := fun j => by rw [ht.out]; exact sum_le Xs j
  have HSA : Hid (sumTo Xs Xs.length = tot) := by show _ = _; rw [ht.out]; exact sum_all Xs
  have KG : Hid (∀ W : World, Calls Tryd.prog 113 #[.slice none 0 0, .int .i64 tot] W fun e w' => ∃ v, e = .returned v ∧ w'.ownsRow W.heap.size 2 1 v 0 (encs []) ∧ Below W.heap.size W w') := fun W => grow_any tot (by omega) W
  clear hF
  go_enter Tryd.func111, Tryd.ntmps111
  go_wp2_with fail
  go_loopw [3, 11] (fun x i wr => ∃ (j : Nat) (s : Nat), j ≤ Xs.length ∧ i = .int .i64 j ∧ x = .int .i64 s ∧ Hid (s = sumTo Xs j) ∧ s ≤ tot ∧ Below w.heap.size w wr) (fun _ i _ => Xs.length - (intOf i).toNat)
  case atStart => exact ⟨0, 0, Nat.zero_le _, rfl, rfl, HS0.out.symm, Nat.zero_le _, Below.refl _ _⟩
  case round =>
    obtain ⟨j, s, hj, rfl, rfl, hs, hst, hb⟩ := hrel
    by_cases hjl : j < Xs.length
    · obtain ⟨A, D, hc, _⟩ := HR.out j hjl
      have c0 := kc hb hc
      have hstep : Hid (sumTo Xs (j + 1) = s + (Xs[j]).length) := by show _ = _; rw [sum_step Xs j hjl, hs.out]
      have hle := HSL (j + 1)
      rw [hstep.out] at hle
      generalize (Xs[j]).length = m at c0 hstep hle
      clear hc
      have hm0 : (0 : Int) ≤ (m : Int) := Int.natCast_nonneg _
      have hs0 : (0 : Int) ≤ (s : Int) := Int.natCast_nonneg _
      have hsm : (s : Int) + (m : Int) ≤ 2097152 := by omega
      go_wp2_with fail
      go_roundw
      case rel => exact ⟨j + 1, s + m, by omega, by go_num, by go_num, hstep.out.symm, hle, hb⟩
      case measure => simp [intOf]; omega
    · obtain rfl : j = Xs.length := by omega
      have hse : s = tot := by rw [hs.out, HSA.out]
      subst hse
      clear hs HSA hst
      go_wp2_with fail
      refine (KG.out _).mono ?_
      rintro e w1 ⟨v0, rfl, hown0, hb1⟩
      have hB1 : Below w.heap.size w w1 := hb.trans (hb1.mono hb.size)
      have hO1 : Hid (w1.ownsRow w.heap.size 2 1 v0 0 (encs [])) := by
        refine ⟨hown0.1, ?_⟩
        rcases hown0.2 with h | ⟨g, cap, cur, h1, h2, h3⟩
        · exact Or.inl h
        · exact Or.inr ⟨g, cap, cur, h1, Nat.le_trans hb.size h2, h3⟩
      clear hb hb1 hown0 KG
      go_wp2_with fail
      go_loopw [6, 27] (fun v i wr => ∃ j : Nat, j ≤ Xs.length ∧ i = .int .i64 j ∧ Hid (wr.ownsRow w.heap.size 2 1 v (sumTo Xs j) (encs (Xs.take j).flatten)) ∧ Below w.heap.size w wr) (fun _ i _ => Xs.length - (intOf i).toNat)
      case atStart => exact ⟨0, Nat.zero_le _, rfl, by simpa [sumTo] using hO1, hB1⟩
      case round =>
        obtain ⟨j, hj, rfl, hown, hb⟩ := hrel
        by_cases hjl : j < Xs.length
        · obtain ⟨A, D, hc, hints⟩ := HR.out j hjl
          have c0 := kc hb hc
          have hI : Hid (Ints _ Xs[j] A) := hints.below hb
          have hle := HSL (j + 1)
          rw [sum_step Xs j hjl] at hle
          obtain ⟨m, hm⟩ : ∃ m, Hid (m = (Xs[j]).length) := ⟨(Xs[j]).length, rfl⟩
          have hle2 : sumTo Xs j + m ≤ 4194304 := by rw [hm.out]; omega
          rw [← hm.out] at c0
          clear hc hints hle
          go_wp2_with (at_builtin; refine wpList_append_ints _ rfl _ _ rfl w.heap.size (sumTo Xs j) m D _ (Xs.take j).flatten Xs[j] A rfl rfl hown.out hI.out hm.out hle2 hb.size ?_)
          intro v' w2 hown2 hg _
          have hB2 : Below w.heap.size w w2 := below_grown hb hg hown.out
          have hO2 : Hid (w2.ownsRow w.heap.size 2 1 v' (sumTo Xs (j + 1)) (encs (Xs.take (j + 1)).flatten)) := by
            show World.ownsRow _ _ _ _ _ _ _
            rw [sum_step Xs j hjl, flat_step Xs j hjl, ← hm.out]
            exact hown2
          clear hown2 hg c0
          go_wp2_with fail
          go_roundw
          case rel => exact ⟨j + 1, by omega, by go_num, hO2, hB2⟩
          case measure => simp [intOf]; omega
        · obtain rfl : j = Xs.length := by omega
          have hO := hown.out
          rw [List.take_length] at hO
          obtain ⟨A', C', rfl, hin⟩ := own_ints hO hb.size
          have HIN := Lib.hid hin
          clear hin hO hown
          go_wp2_with fail
          go_ret
          exact ⟨A', C', rfl, HIN.out, hb⟩
end Go.Proofs.YtojheipllpkgdaaDoor
