/- Contract of spec.Decimal; strings put together. Contract of spec.l01Text. spec.Decimal of numbers below 100. Contract of spec.FlowText. -/
import Derived.Test.YtmblgkpgfofceaaDoorTx
import Derived.Test.YtmblgkpgfofceaaDoorSig
import Derived.Test.YtmblgkpgfofceaaDoorSep
import Derived.Lib.Hide
import Derived.Laws.IdiomStrings
import Derived.Test.YtmblgkpgfofceaaDoorQuietC
import Derived.Deep.RegionWith
import Derived.Test.YtmblgkpgfofceaaDoorFill
import Derived.Lib.ItoaNum
import Derived.IntWalk
import Derived.Test.YtmblgkpgfofceaaDoorFwD
import Derived.Test.YtmblgkpgfofceaaDoorSpW
namespace Go.Proofs.YtmblgkpgfofceaaDoor
open Go.RowKit

theorem conv_one (d : UInt8) (W : World) : (convert 51 9 (.slice (some ⟨W.heap.size, 0, none⟩) 1 1)).run Tryd.prog (W.alloc (.cells #[.int .u8 (d.toNat : Int)] 5)) = .ok (.string ⟨#[d]⟩) (W.alloc (.cells #[.int .u8 (d.toNat : Int)] 5)) := by
  refine run_convert_bytes_back _ _ _ 5 _ 1 [d] Tryd.underlying51 Tryd.underlying5 Tryd.underlying9 ?_
  intro j hj
  have : j = 0 := by simpa using hj
  subst this
  simp [Addr.add]
theorem add_any (l m : List UInt8) (h : l.length + m.length ≤ 4611686018427387904) (W : World) : (Op.stringOp .add ⟨l.toArray⟩ ⟨m.toArray⟩).run Tryd.prog W = .ok (.string ⟨(l ++ m).toArray⟩) W := by
  have hs : ¬ (((⟨l.toArray⟩ : ByteArray).size + (⟨m.toArray⟩ : ByteArray).size : Nat) : Int) > IntKind.i64.max := by
    show ¬ ((l.toArray.size + m.toArray.size : Nat) : Int) > 9223372036854775807
    simp only [List.size_toArray]
    omega
  unfold Op.stringOp
  simp only [hs, if_false, Sem.run_pure]
  congr 2

set_option maxHeartbeats 1000000 in
theorem decimal_0 (w : World) : Calls Tryd.prog 12 #[.int .i64 0] w fun e w' => e = .returned (.string ⟨#[48]⟩) ∧ Below w.heap.size w w' := by
  have q : ∀ W : World, (convert 51 9 (.slice (some ⟨W.heap.size, 0, none⟩) 1 1)).run Tryd.prog (W.alloc (.cells #[.int .u8 48] 5)) = .ok (.string ⟨#[48]⟩) (W.alloc (.cells #[.int .u8 48] 5)) := fun W => conv_one 48 W
  go_enter Tryd.func12, Tryd.ntmps12
  go_wp2_with fail
  go_ret
  exact ⟨rfl, by go_grown⟩

set_option maxHeartbeats 1000000 in
theorem decimal_1 (w : World) : Calls Tryd.prog 12 #[.int .i64 1] w fun e w' => e = .returned (.string ⟨#[49]⟩) ∧ Below w.heap.size w w' := by
  have q : ∀ W : World, (convert 51 9 (.slice (some ⟨W.heap.size, 0, none⟩) 1 1)).run Tryd.prog (W.alloc (.cells #[.int .u8 49] 5)) = .ok (.string ⟨#[49]⟩) (W.alloc (.cells #[.int .u8 49] 5)) := fun W => conv_one 49 W
  go_enter Tryd.func12, Tryd.ntmps12
  go_wp2_with fail
  go_ret
  exact ⟨rfl, by go_grown⟩

set_option maxHeartbeats 1000000 in
theorem decimal_2 (w : World) : Calls Tryd.prog 12 #[.int .i64 2] w fun e w' => e = .returned (.string ⟨#[50]⟩) ∧ Below w.heap.size w w' := by
  have q : ∀ W : World, (convert 51 9 (.slice (some ⟨W.heap.size, 0, none⟩) 1 1)).run Tryd.prog (W.alloc (.cells #[.int .u8 50] 5)) = .ok (.string ⟨#[50]⟩) (W.alloc (.cells #[.int .u8 50] 5)) := fun W => conv_one 50 W
  go_enter Tryd.func12, Tryd.ntmps12
  go_wp2_with fail
  go_ret
  exact ⟨rfl, by go_grown⟩

set_option maxHeartbeats 1000000 in
theorem decimal_3 (w : World) : Calls Tryd.prog 12 #[.int .i64 3] w fun e w' => e = .returned (.string ⟨#[51]⟩) ∧ Below w.heap.size w w' := by
  have q : ∀ W : World, (convert 51 9 (.slice (some ⟨W.heap.size, 0, none⟩) 1 1)).run Tryd.prog (W.alloc (.cells #[.int .u8 51] 5)) = .ok (.string ⟨#[51]⟩) (W.alloc (.cells #[.int .u8 51] 5)) := fun W => conv_one 51 W
  go_enter Tryd.func12, Tryd.ntmps12
  go_wp2_with fail
  go_ret
  exact ⟨rfl, by go_grown⟩

set_option maxHeartbeats 1000000 in
theorem decimal_4 (w : World) : Calls Tryd.prog 12 #[.int .i64 4] w fun e w' => e = .returned (.string ⟨#[52]⟩) ∧ Below w.heap.size w w' := by
  have q : ∀ W : World, (convert 51 9 (.slice (some ⟨W.heap.size, 0, none⟩) 1 1)).run Tryd.prog (W.alloc (.cells #[.int .u8 52] 5)) = .ok (.string ⟨#[52]⟩) (W.alloc (.cells #[.int .u8 52] 5)) := fun W => conv_one 52 W
  go_enter Tryd.func12, Tryd.ntmps12
  go_wp2_with fail
  go_ret
  exact ⟨rfl, by go_grown⟩

set_option maxHeartbeats 1000000 in
theorem decimal_5 (w : World) : Calls Tryd.prog 12 #[.int .i64 5] w fun e w' => e = .returned (.string ⟨#[53]⟩) ∧ Below w.heap.size w w' := by
  have q : ∀ W : World, (convert 51 9 (.slice (some ⟨W.heap.size, 0, none⟩) 1 1)).run Tryd.prog (W.alloc (.cells #[.int .u8 53] 5)) = .ok (.string ⟨#[53]⟩) (W.alloc (.cells #[.int .u8 53] 5)) := fun W => conv_one 53 W
  go_enter Tryd.func12, Tryd.ntmps12
  go_wp2_with fail
  go_ret
  exact ⟨rfl, by go_grown⟩

set_option maxHeartbeats 1000000 in
theorem decimal_6 (w : World) : Calls Tryd.prog 12 #[.int .i64 6] w fun e w' => e = .returned (.string ⟨#[54]⟩) ∧ Below w.heap.size w w' := by
  have q : ∀ W : World, (convert 51 9 (.slice (some ⟨W.heap.size, 0, none⟩) 1 1)).run Tryd.prog (W.alloc (.cells #[.int .u8 54] 5)) = .ok (.string ⟨#[54]⟩) (W.alloc (.cells #[.int .u8 54] 5)) := fun W => conv_one 54 W
  go_enter Tryd.func12, Tryd.ntmps12
  go_wp2_with fail
  go_ret
  exact ⟨rfl, by go_grown⟩

set_option maxHeartbeats 1000000 in
theorem decimal_7 (w : World) : Calls Tryd.prog 12 #[.int .i64 7] w fun e w' => e = .returned (.string ⟨#[55]⟩) ∧ Below w.heap.size w w' := by
  have q : ∀ W : World, (convert 51 9 (.slice (some ⟨W.heap.size, 0, none⟩) 1 1)).run Tryd.prog (W.alloc (.cells #[.int .u8 55] 5)) = .ok (.string ⟨#[55]⟩) (W.alloc (.cells #[.int .u8 55] 5)) := fun W => conv_one 55 W
  go_enter Tryd.func12, Tryd.ntmps12
  go_wp2_with fail
  go_ret
  exact ⟨rfl, by go_grown⟩

set_option maxHeartbeats 1000000 in
theorem decimal_8 (w : World) : Calls Tryd.prog 12 #[.int .i64 8] w fun e w' => e = .returned (.string ⟨#[56]⟩) ∧ Below w.heap.size w w' := by
  have q : ∀ W : World, (convert 51 9 (.slice (some ⟨W.heap.size, 0, none⟩) 1 1)).run Tryd.prog (W.alloc (.cells #[.int .u8 56] 5)) = .ok (.string ⟨#[56]⟩) (W.alloc (.cells #[.int .u8 56] 5)) := fun W => conv_one 56 W
  go_enter Tryd.func12, Tryd.ntmps12
  go_wp2_with fail
  go_ret
  exact ⟨rfl, by go_grown⟩

set_option maxHeartbeats 1000000 in
theorem decimal_9 (w : World) : Calls Tryd.prog 12 #[.int .i64 9] w fun e w' => e = .returned (.string ⟨#[57]⟩) ∧ Below w.heap.size w w' := by
  have q : ∀ W : World, (convert 51 9 (.slice (some ⟨W.heap.size, 0, none⟩) 1 1)).run Tryd.prog (W.alloc (.cells #[.int .u8 57] 5)) = .ok (.string ⟨#[57]⟩) (W.alloc (.cells #[.int .u8 57] 5)) := fun W => conv_one 57 W
  go_enter Tryd.func12, Tryd.ntmps12
  go_wp2_with fail
  go_ret
  exact ⟨rfl, by go_grown⟩

theorem decimal_one (n : Int) (h0 : 0 ≤ n) (h1 : n < 10) (w : World) :
    Calls Tryd.prog 12 #[.int .i64 n] w fun e w' => e = .returned (str (Lib.decDigits n.toNat)) ∧ Below w.heap.size w w' := by
  rw [Lib.decDigits_one (by omega)]
  have h : n = 0 ∨ n = 1 ∨ n = 2 ∨ n = 3 ∨ n = 4 ∨ n = 5 ∨ n = 6 ∨ n = 7 ∨ n = 8 ∨ n = 9 := by omega
  rcases h with rfl | rfl | rfl | rfl | rfl | rfl | rfl | rfl | rfl | rfl
  · exact decimal_0 w
  · exact decimal_1 w
  · exact decimal_2 w
  · exact decimal_3 w
  · exact decimal_4 w
  · exact decimal_5 w
  · exact decimal_6 w
  · exact decimal_7 w
  · exact decimal_8 w
  · exact decimal_9 w
end Go.Proofs.YtmblgkpgfofceaaDoor

namespace Go.Proofs.YtmblgkpgfofceaaDoor
open Go.RowKit

set_option maxRecDepth 100000 in
set_option maxHeartbeats 4000000 in
theorem l01Text_any : ∀ (N : Nat) (f : Fo), f.nodes < N → f.nodes ≤ 134217728 → ∀ (t a : Int) (b : Bool) (k n : Int) (A : Option Addr) (C B o : Nat) (w : World), t ≤ 3 → a ≤ 4 → f.Lies w A → treeE t a b k n f = true →
      w.cell? ⟨B, o, none⟩ = some (.int .i64 k) → w.cell? ⟨B, o + 1, none⟩ = some (.int .i64 n) → w.cell? ⟨B, o + 2, none⟩ = some (.slice A f.len C) →
      Calls Tryd.prog 13 #[.pointer (some ⟨B, o, none⟩)] w fun e w' => e = .returned (.string ⟨(ndE f k n).tx.toArray⟩) ∧ Below w.heap.size w w' := by
  intro N
  induction N with
  | zero => intro f hN; exact absurd hN (Nat.not_lt_zero _)
  | succ N ih =>
    intro f hN hm t a b k n A C B o w ht3 ha4 hl ht p0 p1 p2
    have IH := Lib.hid ih; clear ih
    have lB : B < w.heap.size := World.block_lt_of_cell? _ _ p0
    rcases tree_forms ht with ⟨rfl, hk⟩ | ⟨k1, n1, f1, rfl, hk, ht1⟩ | ⟨k1, n1, f1, k2, n2, f2, rfl, hk, ht1, ht2⟩
    · clear ht IH
      rcases hk with rfl | rfl | ⟨rfl, hn0, hn1⟩ | ⟨rfl, hn0, hn1⟩
      · go_enter Tryd.func13, Tryd.ntmps13
        go_wp2_with fail
        go_ret
        exact ⟨rfl, by go_grown⟩
      · go_enter Tryd.func13, Tryd.ntmps13
        go_wp2_with fail
        go_ret
        exact ⟨rfl, by go_grown⟩
      · obtain ⟨s1, hs1⟩ : ∃ s : ByteArray, s = ⟨(Lib.decDigits n.toNat).toArray⟩ := ⟨_, rfl⟩
        obtain ⟨s2, hs2⟩ : ∃ s : ByteArray, s = ⟨(116 :: Lib.decDigits n.toNat).toArray⟩ := ⟨_, rfl⟩
        have KD : Hid (∀ W : World, Calls Tryd.prog 12 #[.int .i64 n] W fun e w' => e = .returned (.string s1) ∧ Below W.heap.size W w') := fun W => by rw [hs1]; exact decimal_one n hn0 (by omega) W
        have q1 : ∀ W : World, (Op.stringOp .add ⟨#[116]⟩ s1).run Tryd.prog W = .ok (.string s2) W := fun W => by rw [hs1, hs2]; exact add_any [116] _ (by rw [Lib.decDigits_one (by omega)]; simp) W
        have HV : Hid ((ndE .nil 3 n).tx = 116 :: Lib.decDigits n.toNat) := rfl
        rw [HV.out, ← hs2]
        clear hs1 hs2 hn0 hn1
        go_enter Tryd.func13, Tryd.ntmps13
        go_wp2_with fail
        refine (KD.out _).mono ?_
        rintro e w1 ⟨rfl, hb⟩
        go_wp2_with fail
        go_ret
        exact ⟨rfl, hb⟩
      · obtain ⟨s1, hs1⟩ : ∃ s : ByteArray, s = ⟨(Lib.decDigits n.toNat).toArray⟩ := ⟨_, rfl⟩
        obtain ⟨s2, hs2⟩ : ∃ s : ByteArray, s = ⟨(97 :: Lib.decDigits n.toNat).toArray⟩ := ⟨_, rfl⟩
        have KD : Hid (∀ W : World, Calls Tryd.prog 12 #[.int .i64 n] W fun e w' => e = .returned (.string s1) ∧ Below W.heap.size W w') := fun W => by rw [hs1]; exact decimal_one n hn0 (by omega) W
        have q1 : ∀ W : World, (Op.stringOp .add ⟨#[97]⟩ s1).run Tryd.prog W = .ok (.string s2) W := fun W => by rw [hs1, hs2]; exact add_any [97] _ (by rw [Lib.decDigits_one (by omega)]; simp) W
        have HV : Hid ((ndE .nil 4 n).tx = 97 :: Lib.decDigits n.toNat) := rfl
        rw [HV.out, ← hs2]
        clear hs1 hs2 hn0 hn1
        go_enter Tryd.func13, Tryd.ntmps13
        go_wp2_with fail
        refine (KD.out _).mono ?_
        rintro e w1 ⟨rfl, hb⟩
        go_wp2_with fail
        go_ret
        exact ⟨rfl, hb⟩
    all_goals
      obtain ⟨b', o', rfl, hat⟩ := hl (by simp)
      clear hl
    · have hkn : f1.nodes < N ∧ f1.nodes ≤ 134217728 := by simp only [Fo.nodes] at hN hm; omega
      obtain ⟨c0, c1, ⟨A1, C1, c2, hl1'⟩, _⟩ := hat
      have hl1 : f1.Lies w A1 := hl1'
      have lb : b' < w.heap.size := World.block_lt_of_cell? _ _ c0
      have hln : (Fo.cons k1 n1 f1 .nil).len = 1 := rfl
      rw [hln] at p2
      have hok : (ndE f1 k1 n1).okD := ndE_okD t a ht3 ha4 (f1.nodes + 1) f1 (Nat.lt_succ_self _) _ k1 n1 ht1
      have htl := Nd.tx_len hok
      have hsz := ndE_size f1 k1 n1
      clear hln hl1' ht
      rcases hk with rfl | rfl
      · obtain ⟨s1, hs1⟩ : ∃ s : ByteArray, s = ⟨(ndE f1 k1 n1).tx.toArray⟩ := ⟨_, rfl⟩
        obtain ⟨s2, hs2⟩ : ∃ s : ByteArray, s = ⟨(126 :: (ndE f1 k1 n1).tx).toArray⟩ := ⟨_, rfl⟩
        have KR : Hid (∀ W : World, Sees w W → Calls Tryd.prog 13 #[.pointer (some ⟨b', o', none⟩)] W fun e w' => e = .returned (.string s1) ∧ Below W.heap.size W w') := fun W h => by rw [hs1]; exact IH.out f1 hkn.1 hkn.2 t a _ k1 n1 A1 C1 b' o' W ht3 ha4 (hl1.sees h) ht1 ((h.cell (p := ⟨b', o', none⟩) lb).trans c0) ((h.cell (p := ⟨b', o' + 1, none⟩) lb).trans c1) ((h.cell (p := ⟨b', o' + 2, none⟩) lb).trans c2)
        have q1 : ∀ W : World, (Op.stringOp .add ⟨#[126]⟩ s1).run Tryd.prog W = .ok (.string s2) W := fun W => by rw [hs1, hs2]; exact add_any [126] _ (by simp only [List.length_cons, List.length_nil]; omega) W
        have HV : Hid ((ndE (.cons k1 n1 f1 .nil) 5 n).tx = 126 :: (ndE f1 k1 n1).tx) := rfl
        rw [HV.out, ← hs2]
        clear hs1 hs2 IH hok htl hsz
        go_enter Tryd.func13, Tryd.ntmps13
        go_wp2_with fail
        refine (KR.out _ (Sees.refl w)).mono ?_
        rintro e w1 ⟨rfl, hb⟩
        go_wp2_with fail
        go_ret
        exact ⟨rfl, hb⟩
      · obtain ⟨s1, hs1⟩ : ∃ s : ByteArray, s = ⟨(ndE f1 k1 n1).tx.toArray⟩ := ⟨_, rfl⟩
        obtain ⟨s2, hs2⟩ : ∃ s : ByteArray, s = ⟨((ndE f1 k1 n1).tx ++ [42]).toArray⟩ := ⟨_, rfl⟩
        have KR : Hid (∀ W : World, Sees w W → Calls Tryd.prog 13 #[.pointer (some ⟨b', o', none⟩)] W fun e w' => e = .returned (.string s1) ∧ Below W.heap.size W w') := fun W h => by rw [hs1]; exact IH.out f1 hkn.1 hkn.2 t a _ k1 n1 A1 C1 b' o' W ht3 ha4 (hl1.sees h) ht1 ((h.cell (p := ⟨b', o', none⟩) lb).trans c0) ((h.cell (p := ⟨b', o' + 1, none⟩) lb).trans c1) ((h.cell (p := ⟨b', o' + 2, none⟩) lb).trans c2)
        have q1 : ∀ W : World, (Op.stringOp .add s1 ⟨#[42]⟩).run Tryd.prog W = .ok (.string s2) W := fun W => by rw [hs1, hs2]; exact add_any _ [42] (by simp only [List.length_cons, List.length_nil]; omega) W
        have HV : Hid ((ndE (.cons k1 n1 f1 .nil) 8 n).tx = (ndE f1 k1 n1).tx ++ [42]) := rfl
        rw [HV.out, ← hs2]
        clear hs1 hs2 IH hok htl hsz
        go_enter Tryd.func13, Tryd.ntmps13
        go_wp2_with fail
        refine (KR.out _ (Sees.refl w)).mono ?_
        rintro e w1 ⟨rfl, hb⟩
        go_wp2_with fail
        go_ret
        exact ⟨rfl, hb⟩
    · have hkn : f1.nodes < N ∧ f2.nodes < N ∧ f1.nodes + f2.nodes ≤ 134217728 := by simp only [Fo.nodes] at hN hm; omega
      obtain ⟨c0, c1, ⟨A1, C1, c2, hl1'⟩, d0, d1, ⟨A2, C2, d2, hl2'⟩, _⟩ := hat
      have hl1 : f1.Lies w A1 := hl1'
      have hl2 : f2.Lies w A2 := hl2'
      have lb : b' < w.heap.size := World.block_lt_of_cell? _ _ c0
      have hln : (Fo.cons k1 n1 f1 (.cons k2 n2 f2 .nil)).len = 2 := rfl
      rw [hln] at p2
      have hok : (ndE f1 k1 n1).okD := ndE_okD t a ht3 ha4 (f1.nodes + 1) f1 (Nat.lt_succ_self _) _ k1 n1 ht1
      have hok2 : (ndE f2 k2 n2).okD := ndE_okD t a ht3 ha4 (f2.nodes + 1) f2 (Nat.lt_succ_self _) _ k2 n2 ht2
      have htl := Nd.tx_len hok
      have htl2 := Nd.tx_len hok2
      have hsz := ndE_size f1 k1 n1
      have hsz2 := ndE_size f2 k2 n2
      clear hl1' hl2' ht hln
      rcases hk with rfl | rfl
      · obtain ⟨la, hla⟩ : ∃ l, l = (ndE f1 k1 n1).tx := ⟨_, rfl⟩
        obtain ⟨lb2, hlb⟩ : ∃ l, l = (ndE f2 k2 n2).tx := ⟨_, rfl⟩
        have HV : Hid ((ndE (.cons k1 n1 f1 (.cons k2 n2 f2 .nil)) 6 n).tx = 40 :: (la ++ ([32, 43, 32] ++ (lb2 ++ [41])))) := by show _ = _; rw [hla, hlb]; rfl
        rw [← hla] at htl
        rw [← hlb] at htl2
        obtain ⟨s1, hs1⟩ : ∃ s : ByteArray, s = ⟨la.toArray⟩ := ⟨_, rfl⟩
        obtain ⟨s2, hs2⟩ : ∃ s : ByteArray, s = ⟨lb2.toArray⟩ := ⟨_, rfl⟩
        obtain ⟨s3, hs3⟩ : ∃ s : ByteArray, s = ⟨([40] ++ la).toArray⟩ := ⟨_, rfl⟩
        obtain ⟨s4, hs4⟩ : ∃ s : ByteArray, s = ⟨([40] ++ la ++ [32, 43, 32]).toArray⟩ := ⟨_, rfl⟩
        obtain ⟨s5, hs5⟩ : ∃ s : ByteArray, s = ⟨([40] ++ la ++ [32, 43, 32] ++ lb2).toArray⟩ := ⟨_, rfl⟩
        obtain ⟨s6, hs6⟩ : ∃ s : ByteArray, s = ⟨([40] ++ la ++ [32, 43, 32] ++ lb2 ++ [41]).toArray⟩ := ⟨_, rfl⟩
        have KR : Hid (∀ W : World, Sees w W → Calls Tryd.prog 13 #[.pointer (some ⟨b', o', none⟩)] W fun e w' => e = .returned (.string s1) ∧ Below W.heap.size W w') := fun W h => by rw [hs1, hla]; exact IH.out f1 hkn.1 (by omega) t a _ k1 n1 A1 C1 b' o' W ht3 ha4 (hl1.sees h) ht1 ((h.cell (p := ⟨b', o', none⟩) lb).trans c0) ((h.cell (p := ⟨b', o' + 1, none⟩) lb).trans c1) ((h.cell (p := ⟨b', o' + 2, none⟩) lb).trans c2)
        have KR2 : Hid (∀ W : World, Sees w W → Calls Tryd.prog 13 #[.pointer (some ⟨b', o' + 3, none⟩)] W fun e w' => e = .returned (.string s2) ∧ Below W.heap.size W w') := fun W h => by rw [hs2, hlb]; exact IH.out f2 hkn.2.1 (by omega) t a _ k2 n2 A2 C2 b' (o' + 3) W ht3 ha4 (hl2.sees h) ht2 ((h.cell (p := ⟨b', o' + 3, none⟩) lb).trans d0) ((h.cell (p := ⟨b', o' + 3 + 1, none⟩) lb).trans d1) ((h.cell (p := ⟨b', o' + 3 + 2, none⟩) lb).trans d2)
        have q1 : ∀ W : World, (Op.stringOp .add ⟨#[40]⟩ s1).run Tryd.prog W = .ok (.string s3) W := fun W => by rw [hs1, hs3]; exact add_any [40] la (by simp only [List.length_cons, List.length_nil]; omega) W
        have q2 : ∀ W : World, (Op.stringOp .add s3 ⟨#[32, 43, 32]⟩).run Tryd.prog W = .ok (.string s4) W := fun W => by rw [hs3, hs4]; exact add_any ([40] ++ la) [32, 43, 32] (by simp only [List.length_append, List.length_cons, List.length_nil]; omega) W
        have q3 : ∀ W : World, (Op.stringOp .add s4 s2).run Tryd.prog W = .ok (.string s5) W := fun W => by rw [hs4, hs2, hs5]; exact add_any ([40] ++ la ++ [32, 43, 32]) lb2 (by simp only [List.length_append, List.length_cons, List.length_nil]; omega) W
        have q4 : ∀ W : World, (Op.stringOp .add s5 ⟨#[41]⟩).run Tryd.prog W = .ok (.string s6) W := fun W => by rw [hs5, hs6]; exact add_any ([40] ++ la ++ [32, 43, 32] ++ lb2) [41] (by simp only [List.length_append, List.length_cons, List.length_nil]; omega) W
        have HE : Hid ((ndE (.cons k1 n1 f1 (.cons k2 n2 f2 .nil)) 6 n).tx = [40] ++ la ++ [32, 43, 32] ++ lb2 ++ [41]) := by show _ = _; rw [HV.out]; simp
        rw [HE.out, ← hs6]
        have hX : Hid (St w [(B, o + 2, .slice (some ⟨b', o', none⟩) 2 C)] w) := ⟨Sees.refl w, p2, trivial⟩
        clear hla hlb hs1 hs2 hs3 hs4 hs5 hs6 IH hok hok2 htl htl2 hsz hsz2 HV HE c0 c1 c2 d0 d1 d2 p1
        go_enter Tryd.func13, Tryd.ntmps13
        go_wp2_with fail
        refine wp_region_quietC w [(B, o + 2, .slice (some ⟨b', o', none⟩) 2 C)] (by kernel_rfl) (by kernel_rfl) hX.out ?_
        repeat (first | go_big_quiet_skip | (go_big_quiet_want; apply Exists.intro; refine ⟨fun W hW => ?_, ?_⟩; focus (have hK := Lib.hid hW; obtain ⟨hs, hc⟩ := hW; simp only [Has, and_true] at hc; go_simp; (first | (go_at_call_of 13 (Value.pointer (some ⟨b', o', none⟩)); exact quietC_call hK.out (KR.out _ hK.out.1)) | (go_at_call_of 13 (Value.pointer (some ⟨b', o' + 3, none⟩)); exact quietC_call hK.out (KR2.out _ hK.out.1)) | (go_at_call 13; exact quietC_call hK.out (KR2.out _ hK.out.1)) | rfl))) | (go_simp; go_big_quiet_on))
        refine wpQuiet_nil ?_
        intro w1 H1
        go_wp2_with fail
        go_ret
        exact ⟨rfl, H1.1⟩
      · obtain ⟨la, hla⟩ : ∃ l, l = (ndE f1 k1 n1).tx := ⟨_, rfl⟩
        obtain ⟨lb2, hlb⟩ : ∃ l, l = (ndE f2 k2 n2).tx := ⟨_, rfl⟩
        have HV : Hid ((ndE (.cons k1 n1 f1 (.cons k2 n2 f2 .nil)) 7 n).tx = 40 :: (la ++ ([32] ++ (lb2 ++ [41])))) := by show _ = _; rw [hla, hlb]; rfl
        rw [← hla] at htl
        rw [← hlb] at htl2
        obtain ⟨s1, hs1⟩ : ∃ s : ByteArray, s = ⟨la.toArray⟩ := ⟨_, rfl⟩
        obtain ⟨s2, hs2⟩ : ∃ s : ByteArray, s = ⟨lb2.toArray⟩ := ⟨_, rfl⟩
        obtain ⟨s3, hs3⟩ : ∃ s : ByteArray, s = ⟨([40] ++ la).toArray⟩ := ⟨_, rfl⟩
        obtain ⟨s4, hs4⟩ : ∃ s : ByteArray, s = ⟨([40] ++ la ++ [32]).toArray⟩ := ⟨_, rfl⟩
        obtain ⟨s5, hs5⟩ : ∃ s : ByteArray, s = ⟨([40] ++ la ++ [32] ++ lb2).toArray⟩ := ⟨_, rfl⟩
        obtain ⟨s6, hs6⟩ : ∃ s : ByteArray, s = ⟨([40] ++ la ++ [32] ++ lb2 ++ [41]).toArray⟩ := ⟨_, rfl⟩
        have KR : Hid (∀ W : World, Sees w W → Calls Tryd.prog 13 #[.pointer (some ⟨b', o', none⟩)] W fun e w' => e = .returned (.string s1) ∧ Below W.heap.size W w') := fun W h => by rw [hs1, hla]; exact IH.out f1 hkn.1 (by omega) t a _ k1 n1 A1 C1 b' o' W ht3 ha4 (hl1.sees h) ht1 ((h.cell (p := ⟨b', o', none⟩) lb).trans c0) ((h.cell (p := ⟨b', o' + 1, none⟩) lb).trans c1) ((h.cell (p := ⟨b', o' + 2, none⟩) lb).trans c2)
        have KR2 : Hid (∀ W : World, Sees w W → Calls Tryd.prog 13 #[.pointer (some ⟨b', o' + 3, none⟩)] W fun e w' => e = .returned (.string s2) ∧ Below W.heap.size W w') := fun W h => by rw [hs2, hlb]; exact IH.out f2 hkn.2.1 (by omega) t a _ k2 n2 A2 C2 b' (o' + 3) W ht3 ha4 (hl2.sees h) ht2 ((h.cell (p := ⟨b', o' + 3, none⟩) lb).trans d0) ((h.cell (p := ⟨b', o' + 3 + 1, none⟩) lb).trans d1) ((h.cell (p := ⟨b', o' + 3 + 2, none⟩) lb).trans d2)
        have q1 : ∀ W : World, (Op.stringOp .add ⟨#[40]⟩ s1).run Tryd.prog W = .ok (.string s3) W := fun W => by rw [hs1, hs3]; exact add_any [40] la (by simp only [List.length_cons, List.length_nil]; omega) W
        have q2 : ∀ W : World, (Op.stringOp .add s3 ⟨#[32]⟩).run Tryd.prog W = .ok (.string s4) W := fun W => by rw [hs3, hs4]; exact add_any ([40] ++ la) [32] (by simp only [List.length_append, List.length_cons, List.length_nil]; omega) W
        have q3 : ∀ W : World, (Op.stringOp .add s4 s2).run Tryd.prog W = .ok (.string s5) W := fun W => by rw [hs4, hs2, hs5]; exact add_any ([40] ++ la ++ [32]) lb2 (by simp only [List.length_append, List.length_cons, List.length_nil]; omega) W
        have q4 : ∀ W : World, (Op.stringOp .add s5 ⟨#[41]⟩).run Tryd.prog W = .ok (.string s6) W := fun W => by rw [hs5, hs6]; exact add_any ([40] ++ la ++ [32] ++ lb2) [41] (by simp only [List.length_append, List.length_cons, List.length_nil]; omega) W
        have HE : Hid ((ndE (.cons k1 n1 f1 (.cons k2 n2 f2 .nil)) 7 n).tx = [40] ++ la ++ [32] ++ lb2 ++ [41]) := by show _ = _; rw [HV.out]; simp
        rw [HE.out, ← hs6]
        have hX : Hid (St w [(B, o + 2, .slice (some ⟨b', o', none⟩) 2 C)] w) := ⟨Sees.refl w, p2, trivial⟩
        clear hla hlb hs1 hs2 hs3 hs4 hs5 hs6 IH hok hok2 htl htl2 hsz hsz2 HV HE c0 c1 c2 d0 d1 d2 p1
        go_enter Tryd.func13, Tryd.ntmps13
        go_wp2_with fail
        refine wp_region_quietC w [(B, o + 2, .slice (some ⟨b', o', none⟩) 2 C)] (by kernel_rfl) (by kernel_rfl) hX.out ?_
        repeat (first | go_big_quiet_skip | (go_big_quiet_want; apply Exists.intro; refine ⟨fun W hW => ?_, ?_⟩; focus (have hK := Lib.hid hW; obtain ⟨hs, hc⟩ := hW; simp only [Has, and_true] at hc; go_simp; (first | (go_at_call_of 13 (Value.pointer (some ⟨b', o', none⟩)); exact quietC_call hK.out (KR.out _ hK.out.1)) | (go_at_call_of 13 (Value.pointer (some ⟨b', o' + 3, none⟩)); exact quietC_call hK.out (KR2.out _ hK.out.1)) | (go_at_call 13; exact quietC_call hK.out (KR2.out _ hK.out.1)) | rfl))) | (go_simp; go_big_quiet_on))
        refine wpQuiet_nil ?_
        intro w1 H1
        go_wp2_with fail
        go_ret
        exact ⟨rfl, H1.1⟩
end Go.Proofs.YtmblgkpgfofceaaDoor

namespace Go.Proofs.YtmblgkpgfofceaaDoor
open Go.RowKit

theorem conv_at (d : UInt8) {W : World} {b : Nat} (h : W.cell? ⟨b, 0, none⟩ = some (.int .u8 (d.toNat : Int))) : (convert 51 9 (.slice (some ⟨b, 0, none⟩) 1 1)).run Tryd.prog W = .ok (.string ⟨#[d]⟩) W := by
  refine run_convert_bytes_back _ _ _ 5 _ 1 [d] Tryd.underlying51 Tryd.underlying5 Tryd.underlying9 ?_
  intro j hj
  have : j = 0 := by simpa using hj
  subst this
  simpa [Addr.add] using h
theorem u8_dig (r : Int) (h0 : 0 ≤ r) (h1 : r < 10) : IntKind.u8.wrap (48 + r) = 48 + r := by
  have h : r = 0 ∨ r = 1 ∨ r = 2 ∨ r = 3 ∨ r = 4 ∨ r = 5 ∨ r = 6 ∨ r = 7 ∨ r = 8 ∨ r = 9 := by omega
  rcases h with rfl | rfl | rfl | rfl | rfl | rfl | rfl | rfl | rfl | rfl <;> rfl
set_option maxRecDepth 100000 in
set_option maxHeartbeats 1000000 in
theorem decimal_two (n : Int) (h0 : 10 ≤ n) (h1 : n < 100) (w : World) :
    Calls Tryd.prog 12 #[.int .i64 n] w fun e w' => e = .returned (str (Lib.decDigits n.toNat)) ∧ Below w.heap.size w w' := by
  obtain ⟨r, hr, hr0, hr1⟩ : ∃ r : Int, r = n % 10 ∧ 0 ≤ r ∧ r < 10 := ⟨_, rfl, by omega, by omega⟩
  obtain ⟨z, hz, hz0, hz1⟩ : ∃ z : Int, z = n / 10 ∧ 0 ≤ z ∧ z < 10 := ⟨_, rfl, by omega, by omega⟩
  obtain ⟨d, hd⟩ : ∃ d : UInt8, d.toNat = 48 + r.toNat := ⟨UInt8.ofNat (48 + r.toNat), by simp [UInt8.toNat_ofNat']; omega⟩
  have hdz : ((d.toNat : Nat) : Int) = 48 + r := by rw [hd]; omega
  have q : ∀ W : World, (convert 51 9 (.slice (some ⟨W.heap.size, 0, none⟩) 1 1)).run Tryd.prog (W.alloc (.cells #[.int .u8 (48 + r)] 5)) = .ok (.string ⟨#[d]⟩) (W.alloc (.cells #[.int .u8 (48 + r)] 5)) := fun W => by
    have := conv_one d W
    rw [hdz] at this
    exact this
  have QA : Hid (∀ (W : World) (b : Nat), W.heap[b]? = some (.cells #[.int .u8 (48 + r)] 5 (0, 0)) → (convert 51 9 (.slice (some ⟨b, 0, none⟩) 1 1)).run Tryd.prog W = .ok (.string ⟨#[d]⟩) W) := fun W b h => conv_at d (by rw [hdz]; exact Fo.cell_of_block h 0)
  obtain ⟨c, hc⟩ : ∃ c : List UInt8, c = Lib.decDigits z.toNat := ⟨_, rfl⟩
  have hcl : c.length = 1 := by rw [hc, Lib.decDigits_one (by omega)]; rfl
  obtain ⟨s1, hs1⟩ : ∃ s : ByteArray, s = ⟨c.toArray⟩ := ⟨_, rfl⟩
  obtain ⟨s2, hs2⟩ : ∃ s : ByteArray, s = ⟨(c ++ [d]).toArray⟩ := ⟨_, rfl⟩
  have K1 : Hid (∀ W : World, Calls Tryd.prog 12 #[.int .i64 z] W fun e w' => e = .returned (.string s1) ∧ Below W.heap.size W w') := fun W => by rw [hs1, hc]; exact decimal_one z (by omega) (by omega) W
  have q2 : ∀ W : World, (Op.stringOp .add s1 ⟨#[d]⟩).run Tryd.prog W = .ok (.string s2) W := fun W => by rw [hs1, hs2]; exact add_any c [d] (by simp only [List.length_cons, List.length_nil]; omega) W
  have HE : Hid (str (Lib.decDigits n.toNat) = .string s2) := by
    show _ = _
    rw [hs2, Lib.decDigits_two (by omega) (by omega), hc, Lib.decDigits_one (by omega)]
    have e1 : n.toNat / 10 = z.toNat := by omega
    have e2 : UInt8.ofNat (48 + n.toNat % 10) = d := by
      apply UInt8.toNat_inj.1
      rw [hd]; simp [UInt8.toNat_ofNat']; omega
    rw [e1, e2]; rfl
  rw [HE.out]
  have td : n.tdiv 10 = z := by rw [Int.tdiv_eq_ediv_of_nonneg (by omega)]; exact hz.symm
  have tm : n.tmod 10 = r := by rw [Int.tmod_eq_emod_of_nonneg (by omega)]; exact hr.symm
  have w1 : IntKind.i64.wrap z = z := IntWalk.i64_in _ (by omega)
  have w2 : IntKind.i64.wrap (48 + r) = 48 + r := IntWalk.i64_in _ (by omega)
  have w3 : IntKind.u8.wrap (48 + r) = 48 + r := u8_dig r hr0 hr1
  clear hr hz hd hdz hc hcl hs1 hs2 HE
  have q4 : (convert 51 9 (.slice (some ⟨w.heap.size, 0, none⟩) 1 1)).run Tryd.prog (w.alloc (.cells #[.int .u8 (48 + r)] 5)).drew = .ok (.string ⟨#[d]⟩) (w.alloc (.cells #[.int .u8 (48 + r)] 5)).drew := QA.out (w.alloc (.cells #[.int .u8 (48 + r)] 5)).drew w.heap.size (heap_new _ _ _ rfl)
  go_enter Tryd.func12, Tryd.ntmps12
  go_wp2_with fail
  go_region_with ((go_at_call 12; refine (K1.out _).mono ?_; rintro e wa ⟨rfl, hb⟩; (try have hq := QA.out wa w.heap.size ((hb.block w.heap.size (by simp)).trans (heap_new _ _ _ (by simp))))))
  all_goals
    go_wp2_with fail
    go_ret
    first
      | exact ⟨rfl, Below.alloc (Below.trans (Below.drew (Below.refl _ _)) hb) hb.size _⟩
      | exact ⟨rfl, Below.trans (Below.drew (Below.alloc (Below.refl _ _) (Nat.le_refl _) _)) (hb.mono (by simp))⟩

theorem decimal_any (n : Int) (h0 : 0 ≤ n) (h1 : n < 100) (w : World) :
    Calls Tryd.prog 12 #[.int .i64 n] w fun e w' => e = .returned (str (Lib.decDigits n.toNat)) ∧ Below w.heap.size w w' := by
  by_cases h : n < 10
  · exact decimal_one n h0 h w
  · exact decimal_two n (by omega) h1 w
end Go.Proofs.YtmblgkpgfofceaaDoor

namespace Go.Proofs.YtmblgkpgfofceaaDoor
open Go.RowKit
set_option linter.unusedVariables false

set_option maxHeartbeats 8000000 in
set_option maxRecDepth 100000 in
theorem specFlowText_any (t a s0 : Int) (xs : List Sp) (hf : FitSp xs) (hm : tot Sp.cnt xs ≤ 1048576) (A : Option Addr) (C : Nat) (w : World) (hA : SpL w xs A) :
    Calls Tryd.prog 5 #[.agg #[.int .i64 t, .int .i64 a], .agg #[.int .i64 s0, .slice A xs.length C]] w fun e w' => e = .returned (.string ⟨(flTx t a s0 xs).toArray⟩) ∧ Below w.heap.size w w' := by
  obtain ⟨q1, hq1⟩ : ∃ q : Bool, q = flowB t a s0 xs := ⟨_, rfl⟩
  have K1 : Hid (∀ W : World, St w [(w.heap.size, 0, .int .i64 t), (w.heap.size, 1, .int .i64 a), (w.heap.size + 1, 0, .int .i64 s0), (w.heap.size + 1, 1, .slice A xs.length C)] W → Calls Tryd.prog 11 #[.agg #[.int .i64 t, .int .i64 a], .pointer (some ⟨w.heap.size + 1, 0, none⟩)] W fun e w' => e = .returned (.bool q1) ∧ Below W.heap.size W w') := fun W h => by
    rw [hq1]; exact l06Flow_any t a s0 xs hf hm A C (w.heap.size + 1) W (hA.sees h.1) h.2.2.2.1 h.2.2.2.2.1
  have HS0 : Hid (St w [(w.heap.size, 0, .int .i64 t), (w.heap.size, 1, .int .i64 a), (w.heap.size + 1, 0, .int .i64 s0), (w.heap.size + 1, 1, .slice A xs.length C)] ((w.alloc (.cells #[.int .i64 t, .int .i64 a] 29)).alloc (.cells #[.int .i64 s0, .slice A xs.length C] 33))) := ⟨(by unfold Sees; go_grown), (by simp [go_sem]), (by simp [go_sem]), (by simp [go_sem]), (by simp [go_sem]), trivial⟩
  cases q1
  · have HD : Hid (flTx t a s0 xs = []) := if_neg (by rw [← hq1]; decide)
    rw [HD.out]
    clear hq1 HD hf hm hA
    go_enter Tryd.func5, Tryd.ntmps5
    go_wp2_with fail
    refine (K1.out _ HS0.out).mono ?_
    rintro e w1 ⟨rfl, hb⟩
    have HF := Lib.hid (Sees.below HS0.out.1 hb)
    clear hb
    go_wp2_with fail
    go_ret
    exact ⟨rfl, HF.out⟩
  · obtain ⟨⟨ht0, ht1, ha0, ha1⟩, ⟨hl1, hl60⟩, ⟨hs0, hs1⟩, hTl, hall⟩ := flow_parts hq1.symm
    have HE : flTx t a s0 xs = flowT s0 xs := if_pos hq1.symm
    obtain ⟨T, hT⟩ : ∃ T, T = flowT s0 xs := ⟨_, rfl⟩
    rw [HE, ← hT]
    rw [← hT] at hTl
    have HTL := Lib.hid hTl; have HALL := Lib.hid hall; have HAA := Lib.hid hA
    have HQ := Lib.hid (And.intro ht1 (And.intro ha1 (And.intro hl60 hl1)))
    obtain ⟨ds, hds⟩ : ∃ d, d = Lib.decDigits s0.toNat := ⟨_, rfl⟩
    have h1 : T = (([115, 116, 97, 114, 116, 32] ++ ds) ++ [10]) ++ spotsT (xs.drop 0) := by rw [hT, hds, List.drop_zero]; rfl
    have hl0 : ds.length ≤ 1000000 := by rw [h1] at hTl; simp only [List.length_append] at hTl; omega
    obtain ⟨z1, hz1⟩ : ∃ s : ByteArray, s = ⟨ds.toArray⟩ := ⟨_, rfl⟩
    obtain ⟨z2, hz2⟩ : ∃ s : ByteArray, s = ⟨([115, 116, 97, 114, 116, 32] ++ ds).toArray⟩ := ⟨_, rfl⟩
    obtain ⟨z3, hz3⟩ : ∃ s : ByteArray, s = ⟨([115, 116, 97, 114, 116, 32] ++ ds ++ [10]).toArray⟩ := ⟨_, rfl⟩
    obtain ⟨zT, hzT⟩ : ∃ s : ByteArray, s = ⟨T.toArray⟩ := ⟨_, rfl⟩
    have KD : Hid (∀ W : World, Calls Tryd.prog 12 #[.int .i64 s0] W fun e w' => e = .returned (.string z1) ∧ Below W.heap.size W w') := fun W => by rw [hz1, hds]; exact decimal_any s0 hs0 hs1 W
    have p1 : ∀ W : World, (Op.stringOp .add ⟨#[115, 116, 97, 114, 116, 32]⟩ z1).run Tryd.prog W = .ok (.string z2) W := fun W => by rw [hz1, hz2]; exact add_any [115, 116, 97, 114, 116, 32] ds (by simp only [List.length_cons, List.length_nil]; omega) W
    have p2 : ∀ W : World, (Op.stringOp .add z2 ⟨#[10]⟩).run Tryd.prog W = .ok (.string z3) W := fun W => by rw [hz2, hz3]; exact add_any ([115, 116, 97, 114, 116, 32] ++ ds) [10] (by simp only [List.length_append, List.length_cons, List.length_nil]; omega) W
    have H1 := Lib.hid h1; have HZ3 := Lib.hid hz3; have HZT := Lib.hid hzT
    rw [← hzT]
    clear hq1 HE hT hTl hall h1 hl0 hf hm hA ht0 ht1 ha0 ha1 hl1 hs0 hs1 hds hz1 hz2 hz3 hzT
    go_enter Tryd.func5, Tryd.ntmps5
    go_wp2_with fail
    refine (K1.out _ HS0.out).mono ?_
    rintro e w0 ⟨rfl, hb⟩
    have HSa := Lib.hid (St.below HS0.out hb)
    clear hb K1 HS0
    obtain ⟨sS, x0, x1, x2, x3, _⟩ := HSa.out
    go_wp2_with fail
    refine (KD.out _).mono ?_
    rintro e w1 ⟨rfl, hb⟩
    have HS1 := Lib.hid (St.below HSa.out hb)
    clear hb sS x0 x1 x2 x3 HSa KD
    go_wp2_with fail
    clear p1 p2
    go_loopw [5, 6] (fun v i wr => ∃ (j : Nat) (m : List UInt8) (s : ByteArray), j ≤ xs.length ∧ i = .int .i64 j ∧ v = .string s ∧ Hid (s = ⟨m.toArray⟩) ∧ Hid (T = m ++ spotsT (xs.drop j)) ∧ Hid (Sees w1 wr)) (fun _ i _ => xs.length - (intOf i).toNat)
    case atStart => exact ⟨0, _, z3, Nat.zero_le _, rfl, rfl, HZ3.out, H1.out, Sees.refl _⟩
    case round =>
      obtain ⟨j, m, s, hj, rfl, rfl, hsl, hTm, hS⟩ := hrel
      obtain ⟨wo, rfl⟩ : ∃ wo, wo = wr := ⟨_, rfl⟩
      have HSW := Lib.hid (St.below HS1.out hS.out)
      obtain ⟨sS, x0, x1, x2, x3, _⟩ := HSW.out
      by_cases hjl : j < xs.length
      · obtain ⟨c, p, rfl, hat⟩ := HAA.out (by rintro rfl; simp at hjl)
        obtain ⟨A1, C1, hx1, hQ⟩ := hat j xs[j] (List.getElem?_eq_getElem hjl)
        have hsp := HALL.out j hjl
        have hstep := spotsT_step hjl
        have hp := sp_parts HQ.out.1 HQ.out.2.1 (by have := HQ.out.2.2.1; omega) hsp
        obtain ⟨x, hx⟩ : ∃ x, x = xs[j] := ⟨_, rfl⟩
        rw [← hx] at hx1 hQ hsp hstep hp
        obtain ⟨R, hR⟩ : ∃ R, R = spotsT (xs.drop (j + 1)) := ⟨_, rfl⟩
        rw [← hR] at hstep
        have hTe : T = m ++ ((spotT x ++ [10]) ++ R) := by rw [hTm.out, hstep]
        have hlen := HTL.out
        rw [hTe] at hlen
        simp only [List.length_append, List.length_cons, List.length_nil] at hlen
        have hc7 := hx1.below sS
        obtain ⟨k, n, ck, cn, cf, tg, el⟩ := x
        dsimp only at hp hQ hTe hlen hc7
        obtain ⟨c0, c1, c2, c3, c4, c5, c6⟩ := hc7
        dsimp only at c0 c1 c2 c3 c4 c5 c6
        have HCF : Hid (cf.Lies w1 A1) := hQ.sees HS1.out.1
        clear hstep hsp hx1 hQ hat hx
        have JL := Lib.hid hjl
        have j0 : (0 : Int) ≤ (j : Int) := Int.natCast_nonneg _
        have j1 : (j : Int) < (xs.length : Int) := by omega
        obtain ⟨b, hbb⟩ : ∃ b, b = wo.heap.size := ⟨_, rfl⟩
        obtain ⟨w2, hw2⟩ : ∃ w2, w2 = wo.alloc (.cells #[.int .i64 k, .int .i64 n, .int .i64 ck, .int .i64 cn, .slice A1 cf.len C1, .int .i64 tg, .int .i64 el] 45) := ⟨_, rfl⟩
        have hbl : w2.heap[b]? = some (.cells #[.int .i64 k, .int .i64 n, .int .i64 ck, .int .i64 cn, .slice A1 cf.len C1, .int .i64 tg, .int .i64 el] 45 (0, 0)) := by rw [hw2]; exact heap_new _ _ _ hbb
        have HSB : Hid (St w1 [(b, 0, .int .i64 k), (b, 1, .int .i64 n), (b, 2, .int .i64 ck), (b, 3, .int .i64 cn), (b, 4, .slice A1 cf.len C1), (b, 5, .int .i64 tg), (b, 6, .int .i64 el)] w2) := ⟨by rw [hw2]; exact hS.out.alloc _, Fo.cell_of_block hbl 0, Fo.cell_of_block hbl 1, Fo.cell_of_block hbl 2, Fo.cell_of_block hbl 3, Fo.cell_of_block hbl 4, Fo.cell_of_block hbl 5, Fo.cell_of_block hbl 6, trivial⟩
        clear hbl hS HSW sS
        rcases hp with ⟨hk, hn, htg⟩ | ⟨hk, hcv, hok, hnd, htg, hel⟩ | hk | hk
        · subst hk
          obtain ⟨d1, hd1⟩ : ∃ d, d = Lib.decDigits n.toNat := ⟨_, rfl⟩
          obtain ⟨d2, hd2⟩ : ∃ d, d = Lib.decDigits tg.toNat := ⟨_, rfl⟩
          have hS : spotT ⟨1, n, ck, cn, cf, tg, el⟩ = ([97] ++ d1) ++ ([32] ++ d2) := by rw [hd1, hd2]; rfl
          obtain ⟨z1, hz1⟩ : ∃ s : ByteArray, s = ⟨(d1).toArray⟩ := ⟨_, rfl⟩
          obtain ⟨z2, hz2⟩ : ∃ s : ByteArray, s = ⟨(d2).toArray⟩ := ⟨_, rfl⟩
          have KD1 : Hid (∀ W : World, Calls Tryd.prog 12 #[.int .i64 n] W fun e w' => e = .returned (.string z1) ∧ Below W.heap.size W w') := fun W => by rw [hz1, hd1]; exact decimal_any n hn.1 hn.2 W
          have KD2 : Hid (∀ W : World, Calls Tryd.prog 12 #[.int .i64 tg] W fun e w' => e = .returned (.string z2) ∧ Below W.heap.size W w') := fun W => by rw [hz2, hd2]; exact decimal_any tg htg.1 htg.2 W
          rw [hS] at hTe hlen
          have hl2 : ([97] : List UInt8).length + (d1 : List UInt8).length + ([32] : List UInt8).length + (d2 : List UInt8).length ≤ 1000000 := by simp only [List.length_append] at hlen ⊢; omega
          simp only [List.length_cons, List.length_nil] at hl2
          obtain ⟨y1, hy1⟩ : ∃ s : ByteArray, s = ⟨([97] ++ d1).toArray⟩ := ⟨_, rfl⟩
          have p1 : ∀ W : World, (Op.stringOp .add ⟨#[97]⟩ z1).run Tryd.prog W = .ok (.string y1) W := fun W => by rw [hz1, hy1]; exact add_any ([97]) (d1) (by simp only [List.length_cons, List.length_nil]; omega) W
          obtain ⟨y2, hy2⟩ : ∃ s : ByteArray, s = ⟨([97] ++ d1 ++ [32]).toArray⟩ := ⟨_, rfl⟩
          have p2 : ∀ W : World, (Op.stringOp .add y1 ⟨#[32]⟩).run Tryd.prog W = .ok (.string y2) W := fun W => by rw [hy1, hy2]; exact add_any ([97] ++ d1) ([32]) (by simp only [List.length_append, List.length_cons, List.length_nil]; omega) W
          obtain ⟨y3, hy3⟩ : ∃ s : ByteArray, s = ⟨([97] ++ d1 ++ [32] ++ d2).toArray⟩ := ⟨_, rfl⟩
          have p3 : ∀ W : World, (Op.stringOp .add y2 z2).run Tryd.prog W = .ok (.string y3) W := fun W => by rw [hy2, hz2, hy3]; exact add_any ([97] ++ d1 ++ [32]) (d2) (by simp only [List.length_append, List.length_cons, List.length_nil]; omega) W
          obtain ⟨yf, hyf⟩ : ∃ s' : ByteArray, s' = ⟨(m ++ ([97] ++ d1 ++ [32] ++ d2)).toArray⟩ := ⟨_, rfl⟩
          have pf : ∀ W : World, (Op.stringOp .add s y3).run Tryd.prog W = .ok (.string yf) W := fun W => by rw [hsl.out, hy3, hyf]; exact add_any m ([97] ++ d1 ++ [32] ++ d2) (by simp only [List.length_append, List.length_cons, List.length_nil] at hlen ⊢; omega) W
          obtain ⟨yg, hyg⟩ : ∃ s' : ByteArray, s' = ⟨((m ++ ([97] ++ d1 ++ [32] ++ d2)) ++ [10]).toArray⟩ := ⟨_, rfl⟩
          have pg : ∀ W : World, (Op.stringOp .add yf ⟨#[10]⟩).run Tryd.prog W = .ok (.string yg) W := fun W => by rw [hyf, hyg]; exact add_any (m ++ ([97] ++ d1 ++ [32] ++ d2)) [10] (by simp only [List.length_append, List.length_cons, List.length_nil] at hlen ⊢; omega) W
          have HYG := Lib.hid hyg
          have HTE : Hid (T = ((m ++ ([97] ++ d1 ++ [32] ++ d2)) ++ [10]) ++ spotsT (xs.drop (j + 1))) := by show _ = _; rw [← hR, hTe]; simp only [List.append_assoc]
          clear hS hTe hlen hl2 hyf hyg hz1 hz2 hd1 hd2 hy1 hy2 hy3 hsl hTm hn htg hR
          go_wp2_with fail
          rw [← hw2, ← hbb]
          clear hw2 hbb
          refine wp_region_quietC w1 [(b, 0, .int .i64 1), (b, 1, .int .i64 n), (b, 2, .int .i64 ck), (b, 3, .int .i64 cn), (b, 4, .slice A1 cf.len C1), (b, 5, .int .i64 tg), (b, 6, .int .i64 el)] (by kernel_rfl) (by kernel_rfl) HSB.out ?_
          repeat (first | go_big_quiet_skip | (go_big_quiet_want; apply Exists.intro; refine ⟨fun W hW => ?_, ?_⟩; focus (have hK := Lib.hid hW; obtain ⟨hs, hc⟩ := hW; simp only [Has, and_true] at hc; go_simp; (first | (go_at_call_of 12 (Value.int .i64 n); exact quietC_call hK.out (KD1.out _)) | (go_at_call_of 12 (Value.int .i64 tg); exact quietC_call hK.out (KD2.out _)) | rfl))) | (go_simp; go_big_quiet_on))
          refine wpQuiet_nil ?_
          intro w3 H3
          have HF := Lib.hid H3.1
          clear H3 KD1 KD2
          go_wp2_with fail
          go_roundw
          case rel => exact ⟨j + 1, _, _, JL.out, by go_num, rfl, HYG.out, HTE.out, HF.out⟩
          case measure => have := JL.out; simp [intOf]; omega
        · subst hk
          obtain ⟨d0, hd0⟩ : ∃ d, d = (ndE cf ck cn).tx := ⟨_, rfl⟩
          obtain ⟨d1, hd1⟩ : ∃ d, d = Lib.decDigits tg.toNat := ⟨_, rfl⟩
          obtain ⟨d2, hd2⟩ : ∃ d, d = Lib.decDigits el.toNat := ⟨_, rfl⟩
          have hS : spotT ⟨2, n, ck, cn, cf, tg, el⟩ = (([116, 101, 115, 116, 32] ++ d0) ++ ([32] ++ d1)) ++ ([32] ++ d2) := by rw [hd0, hd1, hd2]; rfl
          obtain ⟨z0, hz0⟩ : ∃ s : ByteArray, s = ⟨(d0).toArray⟩ := ⟨_, rfl⟩
          obtain ⟨z1, hz1⟩ : ∃ s : ByteArray, s = ⟨(d1).toArray⟩ := ⟨_, rfl⟩
          obtain ⟨z2, hz2⟩ : ∃ s : ByteArray, s = ⟨(d2).toArray⟩ := ⟨_, rfl⟩
          have KD0 : Hid (∀ W : World, St w1 [(b, 0, .int .i64 2), (b, 1, .int .i64 n), (b, 2, .int .i64 ck), (b, 3, .int .i64 cn), (b, 4, .slice A1 cf.len C1), (b, 5, .int .i64 tg), (b, 6, .int .i64 el)] W → Calls Tryd.prog 13 #[.pointer (some ⟨b, 2, none⟩)] W fun e w' => e = .returned (.string z0) ∧ Below W.heap.size W w') := fun W h => by rw [hz0, hd0]; exact l01Text_any (cf.nodes + 1) cf (Nat.lt_succ_self _) (by omega) t a false ck cn A1 C1 b 2 W HQ.out.1 HQ.out.2.1 (HCF.out.sees h.1) (condV_bd hcv).2 h.2.2.2.1 h.2.2.2.2.1 h.2.2.2.2.2.1
          have KD1 : Hid (∀ W : World, Calls Tryd.prog 12 #[.int .i64 tg] W fun e w' => e = .returned (.string z1) ∧ Below W.heap.size W w') := fun W => by rw [hz1, hd1]; exact decimal_any tg htg.1 htg.2 W
          have KD2 : Hid (∀ W : World, Calls Tryd.prog 12 #[.int .i64 el] W fun e w' => e = .returned (.string z2) ∧ Below W.heap.size W w') := fun W => by rw [hz2, hd2]; exact decimal_any el hel.1 hel.2 W
          rw [hS] at hTe hlen
          have hl2 : ([116, 101, 115, 116, 32] : List UInt8).length + (d0 : List UInt8).length + ([32] : List UInt8).length + (d1 : List UInt8).length + ([32] : List UInt8).length + (d2 : List UInt8).length ≤ 1000000 := by simp only [List.length_append] at hlen ⊢; omega
          simp only [List.length_cons, List.length_nil] at hl2
          obtain ⟨y1, hy1⟩ : ∃ s : ByteArray, s = ⟨([116, 101, 115, 116, 32] ++ d0).toArray⟩ := ⟨_, rfl⟩
          have p1 : ∀ W : World, (Op.stringOp .add ⟨#[116, 101, 115, 116, 32]⟩ z0).run Tryd.prog W = .ok (.string y1) W := fun W => by rw [hz0, hy1]; exact add_any ([116, 101, 115, 116, 32]) (d0) (by simp only [List.length_cons, List.length_nil]; omega) W
          obtain ⟨y2, hy2⟩ : ∃ s : ByteArray, s = ⟨([116, 101, 115, 116, 32] ++ d0 ++ [32]).toArray⟩ := ⟨_, rfl⟩
          have p2 : ∀ W : World, (Op.stringOp .add y1 ⟨#[32]⟩).run Tryd.prog W = .ok (.string y2) W := fun W => by rw [hy1, hy2]; exact add_any ([116, 101, 115, 116, 32] ++ d0) ([32]) (by simp only [List.length_append, List.length_cons, List.length_nil]; omega) W
          obtain ⟨y3, hy3⟩ : ∃ s : ByteArray, s = ⟨([116, 101, 115, 116, 32] ++ d0 ++ [32] ++ d1).toArray⟩ := ⟨_, rfl⟩
          have p3 : ∀ W : World, (Op.stringOp .add y2 z1).run Tryd.prog W = .ok (.string y3) W := fun W => by rw [hy2, hz1, hy3]; exact add_any ([116, 101, 115, 116, 32] ++ d0 ++ [32]) (d1) (by simp only [List.length_append, List.length_cons, List.length_nil]; omega) W
          obtain ⟨y4, hy4⟩ : ∃ s : ByteArray, s = ⟨([116, 101, 115, 116, 32] ++ d0 ++ [32] ++ d1 ++ [32]).toArray⟩ := ⟨_, rfl⟩
          have p4 : ∀ W : World, (Op.stringOp .add y3 ⟨#[32]⟩).run Tryd.prog W = .ok (.string y4) W := fun W => by rw [hy3, hy4]; exact add_any ([116, 101, 115, 116, 32] ++ d0 ++ [32] ++ d1) ([32]) (by simp only [List.length_append, List.length_cons, List.length_nil]; omega) W
          obtain ⟨y5, hy5⟩ : ∃ s : ByteArray, s = ⟨([116, 101, 115, 116, 32] ++ d0 ++ [32] ++ d1 ++ [32] ++ d2).toArray⟩ := ⟨_, rfl⟩
          have p5 : ∀ W : World, (Op.stringOp .add y4 z2).run Tryd.prog W = .ok (.string y5) W := fun W => by rw [hy4, hz2, hy5]; exact add_any ([116, 101, 115, 116, 32] ++ d0 ++ [32] ++ d1 ++ [32]) (d2) (by simp only [List.length_append, List.length_cons, List.length_nil]; omega) W
          obtain ⟨yf, hyf⟩ : ∃ s' : ByteArray, s' = ⟨(m ++ ([116, 101, 115, 116, 32] ++ d0 ++ [32] ++ d1 ++ [32] ++ d2)).toArray⟩ := ⟨_, rfl⟩
          have pf : ∀ W : World, (Op.stringOp .add s y5).run Tryd.prog W = .ok (.string yf) W := fun W => by rw [hsl.out, hy5, hyf]; exact add_any m ([116, 101, 115, 116, 32] ++ d0 ++ [32] ++ d1 ++ [32] ++ d2) (by simp only [List.length_append, List.length_cons, List.length_nil] at hlen ⊢; omega) W
          obtain ⟨yg, hyg⟩ : ∃ s' : ByteArray, s' = ⟨((m ++ ([116, 101, 115, 116, 32] ++ d0 ++ [32] ++ d1 ++ [32] ++ d2)) ++ [10]).toArray⟩ := ⟨_, rfl⟩
          have pg : ∀ W : World, (Op.stringOp .add yf ⟨#[10]⟩).run Tryd.prog W = .ok (.string yg) W := fun W => by rw [hyf, hyg]; exact add_any (m ++ ([116, 101, 115, 116, 32] ++ d0 ++ [32] ++ d1 ++ [32] ++ d2)) [10] (by simp only [List.length_append, List.length_cons, List.length_nil] at hlen ⊢; omega) W
          have HYG := Lib.hid hyg
          have HTE : Hid (T = ((m ++ ([116, 101, 115, 116, 32] ++ d0 ++ [32] ++ d1 ++ [32] ++ d2)) ++ [10]) ++ spotsT (xs.drop (j + 1))) := by show _ = _; rw [← hR, hTe]; simp only [List.append_assoc]
          clear hS hTe hlen hl2 hyf hyg hz0 hz1 hz2 hd0 hd1 hd2 hy1 hy2 hy3 hy4 hy5 hsl hTm hcv hok hnd htg hel hR
          go_wp2_with fail
          rw [← hw2, ← hbb]
          clear hw2 hbb
          refine wp_region_quietC w1 [(b, 0, .int .i64 2), (b, 1, .int .i64 n), (b, 2, .int .i64 ck), (b, 3, .int .i64 cn), (b, 4, .slice A1 cf.len C1), (b, 5, .int .i64 tg), (b, 6, .int .i64 el)] (by kernel_rfl) (by kernel_rfl) HSB.out ?_
          repeat (first | go_big_quiet_skip | (go_big_quiet_want; apply Exists.intro; refine ⟨fun W hW => ?_, ?_⟩; focus (have hK := Lib.hid hW; obtain ⟨hs, hc⟩ := hW; simp only [Has, and_true] at hc; go_simp; (first | (go_at_call 13; exact quietC_call hK.out (KD0.out _ hK.out)) | (go_at_call_of 12 (Value.int .i64 tg); exact quietC_call hK.out (KD1.out _)) | (go_at_call_of 12 (Value.int .i64 el); exact quietC_call hK.out (KD2.out _)) | rfl))) | (go_simp; go_big_quiet_on))
          refine wpQuiet_nil ?_
          intro w3 H3
          have HF := Lib.hid H3.1
          clear H3 KD0 KD1 KD2
          go_wp2_with fail
          go_roundw
          case rel => exact ⟨j + 1, _, _, JL.out, by go_num, rfl, HYG.out, HTE.out, HF.out⟩
          case measure => have := JL.out; simp [intOf]; omega
        · subst hk
          have hS : spotT ⟨3, n, ck, cn, cf, tg, el⟩ = [104, 97, 108, 116] := rfl
          rw [hS] at hTe hlen
          obtain ⟨yf, hyf⟩ : ∃ s' : ByteArray, s' = ⟨(m ++ ([104, 97, 108, 116])).toArray⟩ := ⟨_, rfl⟩
          have pf : ∀ W : World, (Op.stringOp .add s ⟨#[104, 97, 108, 116]⟩).run Tryd.prog W = .ok (.string yf) W := fun W => by rw [hsl.out, hyf]; exact add_any m ([104, 97, 108, 116]) (by simp only [List.length_cons, List.length_nil] at hlen ⊢; omega) W
          obtain ⟨yg, hyg⟩ : ∃ s' : ByteArray, s' = ⟨((m ++ ([104, 97, 108, 116])) ++ [10]).toArray⟩ := ⟨_, rfl⟩
          have pg : ∀ W : World, (Op.stringOp .add yf ⟨#[10]⟩).run Tryd.prog W = .ok (.string yg) W := fun W => by rw [hyf, hyg]; exact add_any (m ++ ([104, 97, 108, 116])) [10] (by simp only [List.length_append, List.length_cons, List.length_nil] at hlen ⊢; omega) W
          have HYG := Lib.hid hyg
          have HTE : Hid (T = ((m ++ ([104, 97, 108, 116])) ++ [10]) ++ spotsT (xs.drop (j + 1))) := by show _ = _; rw [← hR, hTe]; simp only [List.append_assoc]
          clear hS hTe hlen  hyf hyg    hsl hTm  hR
          go_wp2_with fail
          rw [← hw2]
          have HF := Lib.hid HSB.out.1
          clear hw2 hbb
          go_roundw
          case rel => exact ⟨j + 1, _, _, JL.out, by go_num, rfl, HYG.out, HTE.out, HF.out⟩
          case measure => have := JL.out; simp [intOf]; omega
        · subst hk
          have hS : spotT ⟨4, n, ck, cn, cf, tg, el⟩ = [102, 97, 105, 108] := rfl
          rw [hS] at hTe hlen
          obtain ⟨yf, hyf⟩ : ∃ s' : ByteArray, s' = ⟨(m ++ ([102, 97, 105, 108])).toArray⟩ := ⟨_, rfl⟩
          have pf : ∀ W : World, (Op.stringOp .add s ⟨#[102, 97, 105, 108]⟩).run Tryd.prog W = .ok (.string yf) W := fun W => by rw [hsl.out, hyf]; exact add_any m ([102, 97, 105, 108]) (by simp only [List.length_cons, List.length_nil] at hlen ⊢; omega) W
          obtain ⟨yg, hyg⟩ : ∃ s' : ByteArray, s' = ⟨((m ++ ([102, 97, 105, 108])) ++ [10]).toArray⟩ := ⟨_, rfl⟩
          have pg : ∀ W : World, (Op.stringOp .add yf ⟨#[10]⟩).run Tryd.prog W = .ok (.string yg) W := fun W => by rw [hyf, hyg]; exact add_any (m ++ ([102, 97, 105, 108])) [10] (by simp only [List.length_append, List.length_cons, List.length_nil] at hlen ⊢; omega) W
          have HYG := Lib.hid hyg
          have HTE : Hid (T = ((m ++ ([102, 97, 105, 108])) ++ [10]) ++ spotsT (xs.drop (j + 1))) := by show _ = _; rw [← hR, hTe]; simp only [List.append_assoc]
          clear hS hTe hlen  hyf hyg    hsl hTm  hR
          go_wp2_with fail
          rw [← hw2]
          have HF := Lib.hid HSB.out.1
          clear hw2 hbb
          go_roundw
          case rel => exact ⟨j + 1, _, _, JL.out, by go_num, rfl, HYG.out, HTE.out, HF.out⟩
          case measure => have := JL.out; simp [intOf]; omega
      · obtain rfl : j = xs.length := by omega
        have hTe : T = m := by rw [hTm.out, List.drop_length]; simp [spotsT]
        subst hTe
        obtain rfl : s = zT := by rw [hsl.out, HZT.out]
        have HF := Lib.hid (Sees.below HS1.out.1 hS.out)
        clear hTm hsl hjl hS
        go_wp2_with fail
        go_ret
        exact ⟨rfl, HF.out⟩
end Go.Proofs.YtmblgkpgfofceaaDoor
