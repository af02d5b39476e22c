/- spec.Decimal of numbers below 100. -/
import Derived.Test.YtlaebkhmefnmnaaDoorDec
import Derived.Test.YtlaebkhmefnmnaaDoorFill
import Derived.Lib.ItoaNum
import Derived.Deep.RegionWith
import Derived.IntWalk
namespace Go.Proofs.YtlaebkhmefnmnaaDoor
open Go.RowKit

theorem conv_at (d : UInt8) {W : World} {b : Nat} (h : W.cell? ⟨b, 0, none⟩ = some (.int .u8 (d.toNat : Int))) : (convert 63 9 (.slice (some ⟨b, 0, none⟩) 1 1)).run Tryd.prog W = .ok (.string ⟨#[d]⟩) W := by
  refine run_convert_bytes_back _ _ _ 5 _ 1 [d] Tryd.underlying63 Tryd.underlying5 Tryd.underlying9 ?_
  intro j hj
  have : j = 0 := by simpa using hj
  subst this
  simpa [Addr.add] using h
theorem u8_dig (r : Int) (h0 : 0 ≤ r) (h1 : r < 10) : IntKind.u8.wrap (48 + r) = 48 + r := by
  have h : r = 0 ∨ r = 1 ∨ r = 2 ∨ r = 3 ∨ r = 4 ∨ r = 5 ∨ r = 6 ∨ r = 7 ∨ r = 8 ∨ r = 9 := by omega
  rcases h with rfl | rfl | rfl | rfl | rfl | rfl | rfl | rfl | rfl | rfl <;> rfl
set_option maxRecDepth 100000 in
set_option maxHeartbeats 1000000 in
theorem decimal_two (n : Int) (h0 : 10 ≤ n) (h1 : n < 100) (w : World) :
    Calls Tryd.prog 39 #[.int .i64 n] w fun e w' => e = .returned (str (Lib.decDigits n.toNat)) ∧ Below w.heap.size w w' := by
  obtain ⟨r, hr, hr0, hr1⟩ : ∃ r : Int, r = n % 10 ∧ 0 ≤ r ∧ r < 10 := ⟨_, rfl, by omega, by omega⟩
  obtain ⟨z, hz, hz0, hz1⟩ : ∃ z : Int, z = n / 10 ∧ 0 ≤ z ∧ z < 10 := ⟨_, rfl, by omega, by omega⟩
  obtain ⟨d, hd⟩ : ∃ d : UInt8, d.toNat = 48 + r.toNat := ⟨UInt8.ofNat (48 + r.toNat), by simp [UInt8.toNat_ofNat']; omega⟩
  have hdz : ((d.toNat : Nat) : Int) = 48 + r := by rw [hd]; omega
  have q : ∀ W : World, (convert 63 9 (.slice (some ⟨W.heap.size, 0, none⟩) 1 1)).run Tryd.prog (W.alloc (.cells #[.int .u8 (48 + r)] 5)) = .ok (.string ⟨#[d]⟩) (W.alloc (.cells #[.int .u8 (48 + r)] 5)) := fun W => by
    have := conv_one d W
    rw [hdz] at this
    exact this
  have QA : Hid (∀ (W : World) (b : Nat), W.heap[b]? = some (.cells #[.int .u8 (48 + r)] 5 (0, 0)) → (convert 63 9 (.slice (some ⟨b, 0, none⟩) 1 1)).run Tryd.prog W = .ok (.string ⟨#[d]⟩) W) := fun W b h => conv_at d (by rw [hdz]; exact Fo.cell_of_block h 0)
  obtain ⟨c, hc⟩ : ∃ c : List UInt8, c = Lib.decDigits z.toNat := ⟨_, rfl⟩
  have hcl : c.length = 1 := by rw [hc, Lib.decDigits_one (by omega)]; rfl
  obtain ⟨s1, hs1⟩ : ∃ s : ByteArray, s = ⟨c.toArray⟩ := ⟨_, rfl⟩
  obtain ⟨s2, hs2⟩ : ∃ s : ByteArray, s = ⟨(c ++ [d]).toArray⟩ := ⟨_, rfl⟩
  have K1 : Hid (∀ W : World, Calls Tryd.prog 39 #[.int .i64 z] W fun e w' => e = .returned (.string s1) ∧ Below W.heap.size W w') := fun W => by rw [hs1, hc]; exact decimal_one z (by omega) (by omega) W
  have q2 : ∀ W : World, (Op.stringOp .add s1 ⟨#[d]⟩).run Tryd.prog W = .ok (.string s2) W := fun W => by rw [hs1, hs2]; exact add_any c [d] (by simp only [List.length_cons, List.length_nil]; omega) W
  have HE : Hid (str (Lib.decDigits n.toNat) = .string s2) := by
    show _ = _
    rw [hs2, Lib.decDigits_two (by omega) (by omega), hc, Lib.decDigits_one (by omega)]
    have e1 : n.toNat / 10 = z.toNat := by omega
    have e2 : UInt8.ofNat (48 + n.toNat % 10) = d := by
      apply UInt8.toNat_inj.1
      rw [hd]; simp [UInt8.toNat_ofNat']; omega
    rw [e1, e2]; rfl
  rw [HE.out]
  have td : n.tdiv 10 = z := by rw [Int.tdiv_eq_ediv_of_nonneg (by omega)]; exact hz.symm
  have tm : n.tmod 10 = r := by rw [Int.tmod_eq_emod_of_nonneg (by omega)]; exact hr.symm
  have w1 : IntKind.i64.wrap z = z := IntWalk.i64_in _ (by omega)
  have w2 : IntKind.i64.wrap (48 + r) = 48 + r := IntWalk.i64_in _ (by omega)
  have w3 : IntKind.u8.wrap (48 + r) = 48 + r := u8_dig r hr0 hr1
  clear hr hz hd hdz hc hcl hs1 hs2 HE
  have q4 : (convert 63 9 (.slice (some ⟨w.heap.size, 0, none⟩) 1 1)).run Tryd.prog (w.alloc (.cells #[.int .u8 (48 + r)] 5)).drew = .ok (.string ⟨#[d]⟩) (w.alloc (.cells #[.int .u8 (48 + r)] 5)).drew := QA.out (w.alloc (.cells #[.int .u8 (48 + r)] 5)).drew w.heap.size (heap_new _ _ _ rfl)
  go_enter Tryd.func39, Tryd.ntmps39
  go_wp2_with fail
  go_region_with ((go_at_call 39; refine (K1.out _).mono ?_; rintro e wa ⟨rfl, hb⟩; (try have hq := QA.out wa w.heap.size ((hb.block w.heap.size (by simp)).trans (heap_new _ _ _ (by simp))))))
  all_goals
    go_wp2_with fail
    go_ret
    first
      | exact ⟨rfl, Below.alloc (Below.trans (Below.drew (Below.refl _ _)) hb) hb.size _⟩
      | exact ⟨rfl, Below.trans (Below.drew (Below.alloc (Below.refl _ _) (Nat.le_refl _) _)) (hb.mono (by simp))⟩

theorem decimal_any (n : Int) (h0 : 0 ≤ n) (h1 : n < 100) (w : World) :
    Calls Tryd.prog 39 #[.int .i64 n] w fun e w' => e = .returned (str (Lib.decDigits n.toNat)) ∧ Below w.heap.size w w' := by
  by_cases h : n < 10
  · exact decimal_one n h0 h w
  · exact decimal_two n (by omega) h1 w
end Go.Proofs.YtlaebkhmefnmnaaDoor
