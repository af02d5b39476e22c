/- What CountVotes answers: votes that are true, counted. Contracts of both sides. -/
import Derived.Test.YtlpgkhdecccmlaaRIdx
import Derived.Test.YtlpgkhdecccmlaaRLayT
namespace Go.Proofs.YtlpgkhdecccmlaaR
open Go.RowKit

def voteG (bs : List Bool) (i : Nat) : Bool := bs.getD i false
def voteB (bs : List Bool) : Bool := decide (bs.length = 5) && decide ((2 : Int) < ((pickA (voteG bs) bs.length).length : Int))
def voteC (bs : List Bool) : Int := if bs.length = 5 then 0 else 1
theorem vote_no {bs : List Bool} (h : bs.length ≠ 5) : voteB bs = false ∧ voteC bs = 1 := by unfold voteB voteC; rw [decide_eq_false h, if_neg h]; exact ⟨rfl, rfl⟩
theorem vote_yes {bs : List Bool} (h : bs.length = 5) : voteB bs = decide ((2 : Int) < ((pickA (voteG bs) bs.length).length : Int)) ∧ voteC bs = 0 := by unfold voteB voteC; rw [decide_eq_true h, if_pos h]; exact ⟨rfl, rfl⟩
theorem vote_cells {w : World} {bs : List Bool} {A : Option Addr} (h : BoolsL 0 w bs A) (h0 : 0 < bs.length) : ∃ b o, A = some ⟨b, o, none⟩ ∧ ∀ j, j < bs.length → w.cell? ⟨b, o + j, none⟩ = some (.bool (voteG bs j)) := by
  obtain ⟨b, o, _, hA, hc⟩ := h (by rintro rfl; simp at h0)
  exact ⟨b, o, hA, fun j hj => by rw [hc j bs[j] (List.getElem?_eq_getElem hj)]; simp [voteG, List.getD, hj]⟩

set_option maxHeartbeats 1000000 in
theorem l08Votes_any (g : Nat → Bool) (n : Nat) (hn : n ≤ 1048576) (A : Option Addr) (C : Nat) (w : World) (hl : 0 < n → ∃ b o, A = some ⟨b, o, none⟩ ∧ ∀ j, j < n → w.cell? ⟨b, o + j, none⟩ = some (.bool (g j))) :
    Calls Try.prog 79 #[.slice A n C] w fun e w' => e = .returned (.bool (decide ((2 : Int) < ((pickA g n).length : Int)))) ∧ Below w.heap.size w w' := by
  have HL := Lib.hid hl
  have hz0 : Hid ((pickA g 0).length = 0) := rfl
  clear hl
  go_enter Try.func79, Try.ntmps79
  go_wp2_with fail
  go_loopw [3, 4] (fun v i wr => ∃ j k : Nat, j ≤ n ∧ i = .int .i64 j ∧ v = .int .i64 k ∧ Hid (k = (pickA g j).length) ∧ Hid (Sees w wr)) (fun _ i _ => n - (intOf i).toNat)
  case atStart => exact ⟨0, 0, Nat.zero_le _, rfl, rfl, hz0.out.symm, Sees.refl _⟩
  case round =>
    obtain ⟨j, k, hj, rfl, rfl, hk, hS⟩ := hrel
    clear hz0
    by_cases hjl : j < n
    · obtain ⟨b, o, rfl, hat⟩ := HL.out (by omega)
      have cj := kc hS.out (hat j hjl)
      have JL := Lib.hid hjl
      have hkb : k ≤ 1048576 := by rw [hk.out]; have := pickA_len g j; omega
      obtain ⟨q, hq⟩ : ∃ q : Bool, q = g j := ⟨_, rfl⟩
      rw [← hq] at cj
      have j0 : (0 : Int) ≤ (j : Int) := Int.natCast_nonneg _
      have j1 : (j : Int) < (n : Int) := by omega
      clear hat
      cases q
      · have hP : Hid (k = (pickA g (j + 1)).length) := by show _ = _; rw [pickA_no hq.symm]; exact hk.out
        clear hq hk
        go_wp2_with fail
        go_roundw
        case rel => exact ⟨j + 1, k, JL.out, by go_num, rfl, hP, hS⟩
        case measure => have := JL.out; simp [intOf]; omega
      · have hP : Hid (k + 1 = (pickA g (j + 1)).length) := by show _ = _; rw [pickA_yes hq.symm, List.length_append, ← hk.out]; rfl
        clear hq hk
        go_wp2_with fail
        go_roundw
        case rel => exact ⟨j + 1, k + 1, JL.out, by go_num, by go_num, hP, hS⟩
        case measure => have := JL.out; simp [intOf]; omega
    · obtain rfl : j = n := by omega
      clear hjl
      go_wp2_with fail
      go_ret
      exact ⟨ret_bool (by rw [hk.out]), hS.out⟩

theorem specCountVotes_any (bs : List Bool) (hm : bs.length ≤ 1048576) (A : Option Addr) (C : Nat) (w : World) (hl : BoolsL 0 w bs A) :
    Calls Try.prog 26 #[.slice A bs.length C] w fun e w' => e = .returned (.tuple #[.bool (voteB bs), .int .i64 (voteC bs)]) ∧ Below w.heap.size w w' := by
  by_cases h5 : bs.length = 5
  · have K := Lib.hid (l08Votes_any (voteG bs) bs.length hm A C w fun h => vote_cells hl h)
    obtain ⟨e1, e2⟩ := vote_yes h5
    obtain ⟨q, hq⟩ : ∃ q : Bool, q = decide ((2 : Int) < ((pickA (voteG bs) bs.length).length : Int)) := ⟨_, rfl⟩
    rw [e1, e2]
    rw [← hq] at K ⊢
    have t5 : ((bs.length : Int) != 5) = false := by rw [h5]; rfl
    clear h5 e1 e2 hq hl
    go_enter Try.func26, Try.ntmps26
    go_wp2_with fail
    refine K.out.mono ?_
    rintro e w1 ⟨rfl, hb⟩
    go_wp2_with fail
    go_ret2
    exact ⟨rfl, hb⟩
  · obtain ⟨e1, e2⟩ := vote_no h5
    rw [e1, e2]
    have t5 : ((bs.length : Int) != 5) = true := by rw [bne_iff_ne]; omega
    clear h5 e1 e2 hl
    go_enter Try.func26, Try.ntmps26
    go_wp2_with fail
    go_ret2
    exact ⟨rfl, Below.refl _ _⟩

theorem implCountVotes_any (bs : List Bool) (hm : bs.length ≤ 1048576) (A : Option Addr) (C : Nat) (w : World) (hl : BoolsL 0 w bs A) :
    Calls Try.prog 28 #[.slice A bs.length C] w fun e w' => e = .returned (.tuple #[.bool (voteB bs), .int .i64 (voteC bs)]) ∧ Below w.heap.size w w' := by
  by_cases h5 : bs.length = 5
  · have K := Lib.hid (indicesWhere_any (voteG bs) bs.length hm A C w fun h => vote_cells hl h)
    obtain ⟨e1, e2⟩ := vote_yes h5
    obtain ⟨m, hm2⟩ : ∃ m, m = (pickA (voteG bs) bs.length).length := ⟨_, rfl⟩
    rw [e1, e2]
    rw [← hm2] at K ⊢
    have t5 : ((bs.length : Int) != 5) = false := by rw [h5]; rfl
    clear h5 e1 e2 hm2 hl
    go_enter Try.func28, Try.ntmps28
    go_wp2_with fail
    refine K.out.mono ?_
    rintro e w1 ⟨A', C', rfl, _, hb⟩
    go_wp2_with fail
    go_ret2
    exact ⟨rfl, hb⟩
  · obtain ⟨e1, e2⟩ := vote_no h5
    rw [e1, e2]
    have t5 : ((bs.length : Int) != 5) = true := by rw [bne_iff_ne]; omega
    clear h5 e1 e2 hl
    go_enter Try.func28, Try.ntmps28
    go_wp2_with fail
    go_ret2
    exact ⟨rfl, Below.refl _ _⟩
end Go.Proofs.YtlpgkhdecccmlaaR
