/- Contracts of laws.eqSpotS, laws.eqSpot, laws.eqFlow, of spots and themselves. -/
import Derived.Test.YtmblgkpgfofceaaDoorEq
import Derived.Test.YtmblgkpgfofceaaDoorSp
import Derived.Deep.RegionHeld3
namespace Go.Proofs.YtmblgkpgfofceaaDoor
open Go.RowKit

set_option maxHeartbeats 1000000 in
set_option maxRecDepth 100000 in
theorem eqSpot_same (x : Sp) (hm : x.cf.len ≤ 9223372036854775807) (hf : x.cf.Fits) (A A' : Option Addr) (C C' : Nat) (w : World) (hA : x.cf.Lies w A) (hA' : x.cf.Lies w A') :
    Calls Tryd.prog 35 #[.agg #[.int .i64 x.k, .int .i64 x.n, .int .i64 x.ck, .int .i64 x.cn, .slice A x.cf.len C, .int .i64 x.tg, .int .i64 x.el], .agg #[.int .i64 x.k, .int .i64 x.n, .int .i64 x.ck, .int .i64 x.cn, .slice A' x.cf.len C', .int .i64 x.tg, .int .i64 x.el]] w fun e w' => e = .returned (.bool true) ∧ Below w.heap.size w w' := by
  have K1 : Hid (∀ W : World, Sees w W → Calls Tryd.prog 50 #[.agg #[.int .i64 x.ck, .int .i64 x.cn, .slice A x.cf.len C], .agg #[.int .i64 x.ck, .int .i64 x.cn, .slice A' x.cf.len C']] W fun e w' => e = .returned (.bool true) ∧ Below W.heap.size W w') := fun W h => eqExpr_same x.cf hm hf x.ck x.cn A C A' C' W (hA.sees h) (hA'.sees h)
  clear hA hA'
  have nk : (x.k != x.k) = false := by simp
  have nn : (x.n != x.n) = false := by simp
  have nt : (x.tg != x.tg) = false := by simp
  have ne : (x.el != x.el) = false := by simp
  go_enter Tryd.func35, Tryd.ntmps35
  go_wp2_with fail
  refine (K1.out _ (by unfold Sees; go_grown)).mono ?_
  rintro e w1 ⟨rfl, hb⟩
  have S1 : Hid (St w [(w.heap.size, 5, .int .i64 x.tg), (w.heap.size, 6, .int .i64 x.el), (w.heap.size + 1, 5, .int .i64 x.tg), (w.heap.size + 1, 6, .int .i64 x.el)] w1) := St.below ⟨(by unfold Sees; go_grown), (by simp [go_sem]), (by simp [go_sem]), (by simp [go_sem]), (by simp [go_sem]), trivial⟩ hb
  clear hb
  obtain ⟨_, x0, x1, x2, x3, _⟩ := S1.out
  go_wp2_with fail
  go_ret
  exact ⟨rfl, S1.out.1⟩

set_option maxHeartbeats 2000000 in
set_option maxRecDepth 100000 in
theorem eqSpotS_same (xs : List Sp) (hf : FitSp xs) (A A' : Option Addr) (C C' : Nat) (w : World) (hl : SpL w xs A) (hl' : SpL w xs A') :
    Calls Tryd.prog 20 #[.slice A xs.length C, .slice A' xs.length C'] w fun e w' => e = .returned (.bool true) ∧ Below w.heap.size w w' := by
  have hm := hf.1
  have nl : ((xs.length : Int) != (xs.length : Int)) = false := by simp
  have HH := Lib.hid hl; have HH' := Lib.hid hl'; have HF := Lib.hid hf
  clear hl hl' hf
  go_enter Tryd.func20, Tryd.ntmps20
  go_wp2_with fail
  go_loopw [5] (fun i wr => ∃ j : Nat, j ≤ xs.length ∧ i = .int .i64 j ∧ Below w.heap.size w wr) (fun i _ => xs.length - (intOf i).toNat)
  case atStart => exact ⟨0, Nat.zero_le _, rfl, Below.refl _ _⟩
  case round =>
    obtain ⟨j, hj, rfl, hb⟩ := hrel
    clear nl
    by_cases hjl : j < xs.length
    · obtain ⟨b, o, rfl, hat⟩ := HH.out (by rintro rfl; simp at hjl)
      obtain ⟨b', o', rfl, hat'⟩ := HH'.out (by rintro rfl; simp at hjl)
      have hget : xs[j]? = some xs[j] := List.getElem?_eq_getElem hjl
      obtain ⟨B1, D1, a1, hQ⟩ := hat j xs[j] hget
      obtain ⟨B2, D2, a2, hQ'⟩ := hat' j xs[j] hget
      have hfx := HF.out.2 xs[j] (List.getElem_mem hjl)
      obtain ⟨x, hx⟩ : ∃ x, x = xs[j] := ⟨_, rfl⟩
      rw [← hx] at a1 a2 hQ hQ' hfx
      have ltb : b < wr.heap.size := Nat.lt_of_lt_of_le a1.lt hb.size
      have ltb' : b' < wr.heap.size := Nat.lt_of_lt_of_le a2.lt hb.size
      obtain ⟨c0, c1, c2, c3, c4, c5, c6⟩ := a1.below hb
      obtain ⟨d0, d1, d2, d3, d4, d5, d6⟩ := a2.below hb
      have hj0 : (0 : Int) ≤ (j : Int) := Int.natCast_nonneg _
      have hj1 : (j : Int) < (xs.length : Int) := by omega
      have KC : Hid (∀ W : World, Sees w W → Calls Tryd.prog 35 #[.agg #[.int .i64 x.k, .int .i64 x.n, .int .i64 x.ck, .int .i64 x.cn, .slice B1 x.cf.len D1, .int .i64 x.tg, .int .i64 x.el], .agg #[.int .i64 x.k, .int .i64 x.n, .int .i64 x.ck, .int .i64 x.cn, .slice B2 x.cf.len D2, .int .i64 x.tg, .int .i64 x.el]] W fun e w' => e = .returned (.bool true) ∧ Below W.heap.size W w') :=
        fun W h => eqSpot_same x hfx.1 hfx.2 B1 B2 D1 D2 W (hQ.sees h) (hQ'.sees h)
      have HAT := Lib.hid hat; have HAT' := Lib.hid hat'
      clear hat hat' hget hfx hx a1 a2 hQ hQ'
      go_wp2_with fail
      go_region_held3 (fun w' => w'.cell? ⟨b, o + j * 7, none⟩ = some (.int .i64 x.k) ∧ w'.cell? ⟨b, o + j * 7 + 1, none⟩ = some (.int .i64 x.n) ∧ w'.cell? ⟨b, o + j * 7 + 2, none⟩ = some (.int .i64 x.ck) ∧ w'.cell? ⟨b, o + j * 7 + 3, none⟩ = some (.int .i64 x.cn) ∧ w'.cell? ⟨b, o + j * 7 + 4, none⟩ = some (.slice B1 x.cf.len D1) ∧ w'.cell? ⟨b, o + j * 7 + 5, none⟩ = some (.int .i64 x.tg) ∧ w'.cell? ⟨b, o + j * 7 + 6, none⟩ = some (.int .i64 x.el) ∧ w'.cell? ⟨b', o' + j * 7, none⟩ = some (.int .i64 x.k) ∧ w'.cell? ⟨b', o' + j * 7 + 1, none⟩ = some (.int .i64 x.n) ∧ w'.cell? ⟨b', o' + j * 7 + 2, none⟩ = some (.int .i64 x.ck) ∧ w'.cell? ⟨b', o' + j * 7 + 3, none⟩ = some (.int .i64 x.cn) ∧ w'.cell? ⟨b', o' + j * 7 + 4, none⟩ = some (.slice B2 x.cf.len D2) ∧ w'.cell? ⟨b', o' + j * 7 + 5, none⟩ = some (.int .i64 x.tg) ∧ w'.cell? ⟨b', o' + j * 7 + 6, none⟩ = some (.int .i64 x.el))
        (first | go_keep | (refine ⟨?_, ?_, ?_, ?_, ?_, ?_, ?_, ?_, ?_, ?_, ?_, ?_, ?_, ?_⟩ <;> first | exact (m1 _ _ ltb).trans c0 | exact (m1 _ _ ltb).trans c1 | exact (m1 _ _ ltb).trans c2 | exact (m1 _ _ ltb).trans c3 | exact (m1 _ _ ltb).trans c4 | exact (m1 _ _ ltb).trans c5 | exact (m1 _ _ ltb).trans c6 | exact (m1 _ _ ltb').trans d0 | exact (m1 _ _ ltb').trans d1 | exact (m1 _ _ ltb').trans d2 | exact (m1 _ _ ltb').trans d3 | exact (m1 _ _ ltb').trans d4 | exact (m1 _ _ ltb').trans d5 | exact (m1 _ _ ltb').trans d6))
        (first | (go_at_call 35; refine (KC.out _ (Sees.drew hb)).mono ?_; rintro e w1 ⟨rfl, hb1⟩; obtain ⟨m1, m2, m3⟩ := bkeep hb1))
      have hb2 : Below w.heap.size w w1 := (Below.drew hb).trans (hb1.mono hb.size)
      clear hb hb1 m1 m2 m3 KC c0 c1 c2 c3 c4 c5 c6 d0 d1 d2 d3 d4 d5 d6
      go_wp2_with fail
      go_roundw
      case rel => exact ⟨j + 1, by omega, by go_num, hb2⟩
      case measure => simp [intOf]; omega
    · obtain rfl : j = xs.length := by omega
      go_wp2_with fail
      go_ret
      exact ⟨rfl, hb⟩

set_option maxHeartbeats 1000000 in
theorem eqFlow_same (s : Int) (xs : List Sp) (hf : FitSp xs) (A A' : Option Addr) (C C' : Nat) (w : World) (hl : SpL w xs A) (hl' : SpL w xs A') :
    Calls Tryd.prog 9 #[.agg #[.int .i64 s, .slice A xs.length C], .agg #[.int .i64 s, .slice A' xs.length C']] w fun e w' => e = .returned (.bool true) ∧ Below w.heap.size w w' := by
  have K1 : Hid (∀ W : World, Sees w W → Calls Tryd.prog 20 #[.slice A xs.length C, .slice A' xs.length C'] W fun e w' => e = .returned (.bool true) ∧ Below W.heap.size W w') := fun W h => eqSpotS_same xs hf A A' C C' W (hl.sees h) (hl'.sees h)
  clear hl hl'
  have ns : (s != s) = false := by simp
  go_enter Tryd.func9, Tryd.ntmps9
  go_wp2_with fail
  refine (K1.out _ (by unfold Sees; go_grown)).mono ?_
  rintro e w1 ⟨rfl, hb⟩
  have B1 : Sees w w1 := Sees.below (by unfold Sees; go_grown) hb
  clear hb
  go_wp2_with fail
  go_ret
  exact ⟨rfl, B1⟩
end Go.Proofs.YtmblgkpgfofceaaDoor
