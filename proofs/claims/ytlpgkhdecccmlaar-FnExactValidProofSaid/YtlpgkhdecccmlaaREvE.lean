/- impl.every at Expr, ProofStep, Claim. -/
import Derived.Test.YtlpgkhdecccmlaaRUe
import Derived.Test.YtlpgkhdecccmlaaRQuietC
import Derived.Shelf.Abstract
import Derived.Laws.EntriesVeiled
import Derived.Deep.RegionHeld3
import Derived.Test.YtlpgkhdecccmlaaRPs
import Derived.Test.YtlpgkhdecccmlaaRCl
namespace Go.Proofs.YtlpgkhdecccmlaaR
open Go.RowKit
set_option linter.unusedVariables false

theorem Fo.rowG {w : World} {f : Fo} {b o : Nat} (h : f.At w b o) {i : Nat} (hi : i < f.len) :
    ∃ k n ks r A C, Hid (f.drop i = .cons k n ks r) ∧ Hid (f.drop (i + 1) = r) ∧ w.cell? ⟨b, o + i * 3, none⟩ = some (.int .i64 k) ∧ w.cell? ⟨b, o + i * 3 + 1, none⟩ = some (.int .i64 n) ∧ w.cell? ⟨b, o + i * 3 + 2, none⟩ = some (.slice A ks.len C) ∧ ks.Lies w A := Fo.Lies.row h hi
def Fo.allG (G : Int → Int → Fo → Bool) : Fo → Bool
  | .nil => true
  | .cons k n ks r => G k n ks && r.allG G
set_option maxHeartbeats 1500000 in
set_option maxRecDepth 100000 in
theorem every1E_any (q : Bool) (N : Nat) (caps : Array Value) (eg : ∀ args w, (callFunc N args).run Try.prog w = .ok (.enter N args) w) (bh : Nat) (k : Int) (n : Int) (ks : Fo) (Aks : Option Addr) (Cks : Nat) (w : World) (hc : w.cell? ⟨bh, 0, none⟩ = some (.func (.func N) #[] caps))
    (KC : Hid (∀ W : World, Sees w W → Calls Try.prog N (#[.agg #[.int .i64 k, .int .i64 n, .slice Aks ks.len Cks]] ++ caps) W fun e w' => e = .returned (.bool q) ∧ Below W.heap.size W w')) :
    Calls Try.prog 224 #[.agg #[.int .i64 k, .int .i64 n, .slice Aks ks.len Cks], .pointer (some ⟨bh, 0, none⟩)] w fun e w' => e = .returned (.bool (!q)) ∧ Below w.heap.size w w' := by
  have hc2 := ka (.cells #[.int .i64 k, .int .i64 n, .slice Aks ks.len Cks] 35) hc
  have KS := Lib.hid (KC.out _ ((Sees.refl w).alloc (.cells #[.int .i64 k, .int .i64 n, .slice Aks ks.len Cks] 35)))
  clear hc KC
  cases q
  all_goals
    go_enter Try.func224, Try.ntmps224
    go_wp2_with (go_at_fn N; refine KS.out.mono ?_; rintro e w1 ⟨rfl, hb⟩)
    go_ret
    exact ⟨rfl, Sees.below ((Sees.refl w).alloc _) (by assumption)⟩
set_option maxHeartbeats 1500000 in
set_option maxRecDepth 100000 in
theorem indexE_any (G : Int → Int → Fo → Bool) (bh : Nat) (xs : Fo) (hm : xs.len ≤ 9223372036854775807) (A : Option Addr) (C : Nat) (w : World) (hl : xs.Lies w A)
    (KC : Hid (∀ (W : World) (k : Int) (n : Int) (ks : Fo) (r : Fo) (j : Nat) (Aks : Option Addr) (Cks : Nat), Sees w W → xs.drop j = .cons k n ks r → ks.Lies W Aks → Calls Try.prog 224 #[.agg #[.int .i64 k, .int .i64 n, .slice Aks ks.len Cks], .pointer (some ⟨bh, 0, none⟩)] W fun e w' => e = .returned (.bool (!G k n ks)) ∧ Below W.heap.size W w')) :
    Calls Try.prog 230 #[.slice A xs.len C, .func (.func 224) #[] #[.pointer (some ⟨bh, 0, none⟩)]] w fun e w' => (∃ i : Int, e = .returned (.int .i64 i) ∧ decide (0 ≤ i) = !(xs.allG G)) ∧ Below w.heap.size w w' := by
  have HD : Hid (xs.allG G = (xs.drop 0).allG G) := by cases xs <;> rfl
  have HH := Lib.hid hl
  clear hl
  go_enter Try.func230, Try.ntmps230
  go_wp2_with fail
  go_loopw [8] (fun i wr => ∃ j : Nat, j ≤ xs.len ∧ i = .int .i64 j ∧ Hid (xs.allG G = (xs.drop j).allG G) ∧ Hid (Below w.heap.size w wr)) (fun i _ => xs.len - (intOf i).toNat)
  case atStart => exact ⟨0, Nat.zero_le _, rfl, HD, Below.refl _ _⟩
  case round =>
    obtain ⟨j, hj, rfl, hq, hw⟩ := hrel
    clear HD
    by_cases hjl : j < xs.len
    · obtain ⟨b, o, rfl, hat⟩ := HH.out (by rintro rfl; simp [Fo.len] at hjl)
      obtain ⟨k, n, ks, r, Aks, Cks, e1, e2, c0, c1, c2, hl_ks⟩ := Fo.rowG hat hjl
      have hb := hw.out
      have a0 := kc hb c0; have a1 := kc hb c1; have a2 := kc hb c2
      have KX := Lib.hid (KC.out wr k n ks r j Aks Cks hw.out e1.out (hl_ks.below hw.out))
      have HA := Lib.hid hat
      have hst : Hid (xs.allG G = (G k n ks && (xs.drop (j + 1)).allG G)) := by
        show _ = _
        rw [hq.out, e1.out, e2.out]; rfl
      obtain ⟨q, hqe⟩ : ∃ q : Bool, q = G k n ks := ⟨_, rfl⟩
      rw [← hqe] at KX hst
      clear hat c0 c1 c2 hl_ks hb hqe hq e1 e2
      have hj0 : (0 : Int) ≤ (j : Int) := Int.natCast_nonneg _
      have hj1 : (j : Int) < (xs.len : Int) := by omega
      cases q
      · have hq2 : Hid (decide ((0 : Int) ≤ (j : Int)) = !(xs.allG G)) := by show _ = _; rw [hst.out, decide_eq_true hj0]; rfl
        go_wp2_with fail
        refine KX.out.mono ?_
        rintro e w1 ⟨rfl, hb1⟩
        have hw2 := Sees.below hw.out hb1
        clear hb1 a0 a1 a2
        go_wp2_with fail
        go_ret
        exact ⟨⟨_, rfl, hq2.out⟩, hw2⟩
      · have hq2 : Hid (xs.allG G = (xs.drop (j + 1)).allG G) := by show _ = _; rw [hst.out]; rfl
        go_wp2_with fail
        refine KX.out.mono ?_
        rintro e w1 ⟨rfl, hb1⟩
        have hw2 := Lib.hid (Sees.below hw.out hb1)
        clear hb1 a0 a1 a2
        go_wp2_with fail
        go_roundw
        case rel => exact ⟨j + 1, by omega, by go_num, hq2, hw2⟩
        case measure => simp [intOf]; omega
    · obtain rfl : j = xs.len := by omega
      have hq2 : Hid (decide ((0 : Int) ≤ -1) = !(xs.allG G)) := by show _ = _; rw [hq.out, Fo.drop_len]; rfl
      clear hq
      go_wp2_with fail
      go_ret
      exact ⟨⟨_, rfl, hq2.out⟩, hw.out⟩
set_option maxHeartbeats 1500000 in
set_option maxRecDepth 100000 in
theorem containsE_any (G : Int → Int → Fo → Bool) (bh : Nat) (xs : Fo) (hm : xs.len ≤ 9223372036854775807) (A : Option Addr) (C : Nat) (w : World) (hl : xs.Lies w A)
    (KC : Hid (∀ (W : World) (k : Int) (n : Int) (ks : Fo) (r : Fo) (j : Nat) (Aks : Option Addr) (Cks : Nat), Sees w W → xs.drop j = .cons k n ks r → ks.Lies W Aks → Calls Try.prog 224 #[.agg #[.int .i64 k, .int .i64 n, .slice Aks ks.len Cks], .pointer (some ⟨bh, 0, none⟩)] W fun e w' => e = .returned (.bool (!G k n ks)) ∧ Below W.heap.size W w')) :
    Calls Try.prog 223 #[.slice A xs.len C, .func (.func 224) #[] #[.pointer (some ⟨bh, 0, none⟩)]] w fun e w' => e = .returned (.bool (!(xs.allG G))) ∧ Below w.heap.size w w' := by
  have KI := Lib.hid (indexE_any G bh xs hm A C w hl KC)
  clear hl
  obtain ⟨q, hq⟩ : ∃ q : Bool, q = xs.allG G := ⟨_, rfl⟩
  rw [← hq] at KI ⊢
  clear hq
  go_enter Try.func223, Try.ntmps223
  go_wp2_with fail
  refine KI.out.mono ?_
  rintro e w1 ⟨⟨i, rfl, hi⟩, hb⟩
  by_cases h0 : 0 ≤ i
  · have hi' : q = false := by rw [decide_eq_true h0] at hi; simpa using hi.symm
    subst hi'
    clear hi
    go_wp2_with fail
    go_ret
    exact ⟨rfl, hb⟩
  · have hi' : q = true := by rw [decide_eq_false h0] at hi; simpa using hi.symm
    subst hi'
    clear hi
    have hd : Hid (decide (0 ≤ i) = !true) := decide_eq_false h0
    go_wp2_with fail
    go_ret
    exact ⟨ret_bool hd.out, hb⟩
set_option maxHeartbeats 1500000 in
set_option maxRecDepth 100000 in
theorem everyE_any (G : Int → Int → Fo → Bool) (N : Nat) (caps : Array Value) (eg : ∀ args w, (callFunc N args).run Try.prog w = .ok (.enter N args) w) (xs : Fo) (hm : xs.len ≤ 9223372036854775807) (A : Option Addr) (C : Nat) (w : World) (hl : xs.Lies w A)
    (KC : Hid (∀ (W : World) (k : Int) (n : Int) (ks : Fo) (r : Fo) (j : Nat) (Aks : Option Addr) (Cks : Nat), Sees w W → xs.drop j = .cons k n ks r → ks.Lies W Aks → Calls Try.prog N (#[.agg #[.int .i64 k, .int .i64 n, .slice Aks ks.len Cks]] ++ caps) W fun e w' => e = .returned (.bool (G k n ks)) ∧ Below W.heap.size W w')) :
    Calls Try.prog 204 #[.slice A xs.len C, .func (.func N) #[] caps] w fun e w' => e = .returned (.bool (xs.allG G)) ∧ Below w.heap.size w w' := by
  have KI : Hid (∀ W : World, Sees w W → W.cell? ⟨w.heap.size, 0, none⟩ = some (.func (.func N) #[] caps) → Calls Try.prog 223 #[.slice A xs.len C, .func (.func 224) #[] #[.pointer (some ⟨w.heap.size, 0, none⟩)]] W fun e w' => e = .returned (.bool (!(xs.allG G))) ∧ Below W.heap.size W w') := fun W h hc =>
    containsE_any G w.heap.size xs hm A C W (hl.sees h) (fun W' k n ks r j Aks Cks h' hx gks => every1E_any (G k n ks) N caps eg w.heap.size k n ks Aks Cks W' (kc h' hc) (fun W2 h2 => KC.out W2 k n ks r j Aks Cks (Sees.below h (Sees.below h' h2)) hx (gks.sees h2)))
  clear hl
  obtain ⟨q, hq⟩ : ∃ q : Bool, q = xs.allG G := ⟨_, rfl⟩
  rw [← hq] at KI ⊢
  clear hq
  cases q
  all_goals
    go_enter Try.func204, Try.ntmps204
    go_wp2_with fail
    refine (KI.out _ (by unfold Sees; go_grown) (by simp [go_sem])).mono ?_
    rintro e w1 ⟨rfl, hb⟩
    have B1 : Sees w w1 := Sees.below (by unfold Sees; go_grown) hb
    clear hb
    go_wp2_with fail
    go_ret
    exact ⟨rfl, B1⟩
end Go.Proofs.YtlpgkhdecccmlaaR

namespace Go.Proofs.YtlpgkhdecccmlaaR
open Go.RowKit
set_option linter.unusedVariables false

def Ps.allG (G : Int → Bool → Il → Fo → Fo → Bool) : Ps → Bool
  | .nil => true
  | .cons us bk pa te ac r => G us bk pa te ac && r.allG G
set_option maxHeartbeats 1500000 in
set_option maxRecDepth 100000 in
theorem every1S_any (q : Bool) (N : Nat) (caps : Array Value) (eg : ∀ args w, (callFunc N args).run Try.prog w = .ok (.enter N args) w) (bh : Nat) (us : Int) (bk : Bool) (pa : Il) (te : Fo) (ac : Fo) (Apa Ate Aac : Option Addr) (Cpa Cte Cac : Nat) (w : World) (hc : w.cell? ⟨bh, 0, none⟩ = some (.func (.func N) #[] caps))
    (KC : Hid (∀ W : World, Sees w W → Calls Try.prog N (#[.agg #[.int .i64 us, .bool bk, .slice Apa pa.len Cpa, .slice Ate te.len Cte, .slice Aac ac.len Cac]] ++ caps) W fun e w' => e = .returned (.bool q) ∧ Below W.heap.size W w')) :
    Calls Try.prog 199 #[.agg #[.int .i64 us, .bool bk, .slice Apa pa.len Cpa, .slice Ate te.len Cte, .slice Aac ac.len Cac], .pointer (some ⟨bh, 0, none⟩)] w fun e w' => e = .returned (.bool (!q)) ∧ Below w.heap.size w w' := by
  have hc2 := ka (.cells #[.int .i64 us, .bool bk, .slice Apa pa.len Cpa, .slice Ate te.len Cte, .slice Aac ac.len Cac] 220) hc
  have KS := Lib.hid (KC.out _ ((Sees.refl w).alloc (.cells #[.int .i64 us, .bool bk, .slice Apa pa.len Cpa, .slice Ate te.len Cte, .slice Aac ac.len Cac] 220)))
  clear hc KC
  cases q
  all_goals
    go_enter Try.func199, Try.ntmps199
    go_wp2_with (go_at_fn N; refine KS.out.mono ?_; rintro e w1 ⟨rfl, hb⟩)
    go_ret
    exact ⟨rfl, Sees.below ((Sees.refl w).alloc _) (by assumption)⟩
set_option maxHeartbeats 1500000 in
set_option maxRecDepth 100000 in
theorem indexS_any (G : Int → Bool → Il → Fo → Fo → Bool) (bh : Nat) (xs : Ps) (hm : xs.len ≤ 9223372036854775807) (A : Option Addr) (C : Nat) (w : World) (hl : xs.Lies w A)
    (KC : Hid (∀ (W : World) (us : Int) (bk : Bool) (pa : Il) (te : Fo) (ac : Fo) (r : Ps) (j : Nat) (Apa Ate Aac : Option Addr) (Cpa Cte Cac : Nat), Sees w W → xs.drop j = .cons us bk pa te ac r → pa.Lies W Apa → te.Lies W Ate → ac.Lies W Aac → Calls Try.prog 199 #[.agg #[.int .i64 us, .bool bk, .slice Apa pa.len Cpa, .slice Ate te.len Cte, .slice Aac ac.len Cac], .pointer (some ⟨bh, 0, none⟩)] W fun e w' => e = .returned (.bool (!G us bk pa te ac)) ∧ Below W.heap.size W w')) :
    Calls Try.prog 219 #[.slice A xs.len C, .func (.func 199) #[] #[.pointer (some ⟨bh, 0, none⟩)]] w fun e w' => (∃ i : Int, e = .returned (.int .i64 i) ∧ decide (0 ≤ i) = !(xs.allG G)) ∧ Below w.heap.size w w' := by
  have HD : Hid (xs.allG G = (xs.drop 0).allG G) := by cases xs <;> rfl
  have HH := Lib.hid hl
  clear hl
  go_enter Try.func219, Try.ntmps219
  go_wp2_with fail
  go_loopw [8] (fun i wr => ∃ j : Nat, j ≤ xs.len ∧ i = .int .i64 j ∧ Hid (xs.allG G = (xs.drop j).allG G) ∧ Hid (Below w.heap.size w wr)) (fun i _ => xs.len - (intOf i).toNat)
  case atStart => exact ⟨0, Nat.zero_le _, rfl, HD, Below.refl _ _⟩
  case round =>
    obtain ⟨j, hj, rfl, hq, hw⟩ := hrel
    clear HD
    by_cases hjl : j < xs.len
    · obtain ⟨b, o, rfl, hat⟩ := HH.out (by rintro rfl; simp [Ps.len] at hjl)
      obtain ⟨us, bk, pa, te, ac, r, Apa, Cpa, Ate, Cte, Aac, Cac, e1, e2, c0, c1, c2, hl_pa, c3, hl_te, c4, hl_ac⟩ := Ps.Lies.row hat hjl
      have hb := hw.out
      have a0 := kc hb c0; have a1 := kc hb c1; have a2 := kc hb c2; have a3 := kc hb c3; have a4 := kc hb c4
      have KX := Lib.hid (KC.out wr us bk pa te ac r j Apa Ate Aac Cpa Cte Cac hw.out e1.out (hl_pa.below hw.out) (hl_te.below hw.out) (hl_ac.below hw.out))
      have HA := Lib.hid hat
      have hst : Hid (xs.allG G = (G us bk pa te ac && (xs.drop (j + 1)).allG G)) := by
        show _ = _
        rw [hq.out, e1.out, e2.out]; rfl
      obtain ⟨q, hqe⟩ : ∃ q : Bool, q = G us bk pa te ac := ⟨_, rfl⟩
      rw [← hqe] at KX hst
      clear hat c0 c1 c2 c3 c4 hl_pa hl_te hl_ac hb hqe hq e1 e2
      have hj0 : (0 : Int) ≤ (j : Int) := Int.natCast_nonneg _
      have hj1 : (j : Int) < (xs.len : Int) := by omega
      cases q
      · have hq2 : Hid (decide ((0 : Int) ≤ (j : Int)) = !(xs.allG G)) := by show _ = _; rw [hst.out, decide_eq_true hj0]; rfl
        go_wp2_with fail
        refine KX.out.mono ?_
        rintro e w1 ⟨rfl, hb1⟩
        have hw2 := Sees.below hw.out hb1
        clear hb1 a0 a1 a2 a3 a4
        go_wp2_with fail
        go_ret
        exact ⟨⟨_, rfl, hq2.out⟩, hw2⟩
      · have hq2 : Hid (xs.allG G = (xs.drop (j + 1)).allG G) := by show _ = _; rw [hst.out]; rfl
        go_wp2_with fail
        refine KX.out.mono ?_
        rintro e w1 ⟨rfl, hb1⟩
        have hw2 := Lib.hid (Sees.below hw.out hb1)
        clear hb1 a0 a1 a2 a3 a4
        go_wp2_with fail
        go_roundw
        case rel => exact ⟨j + 1, by omega, by go_num, hq2, hw2⟩
        case measure => simp [intOf]; omega
    · obtain rfl : j = xs.len := by omega
      have hq2 : Hid (decide ((0 : Int) ≤ -1) = !(xs.allG G)) := by show _ = _; rw [hq.out, Ps.drop_len]; rfl
      clear hq
      go_wp2_with fail
      go_ret
      exact ⟨⟨_, rfl, hq2.out⟩, hw.out⟩
set_option maxHeartbeats 1500000 in
set_option maxRecDepth 100000 in
theorem containsS_any (G : Int → Bool → Il → Fo → Fo → Bool) (bh : Nat) (xs : Ps) (hm : xs.len ≤ 9223372036854775807) (A : Option Addr) (C : Nat) (w : World) (hl : xs.Lies w A)
    (KC : Hid (∀ (W : World) (us : Int) (bk : Bool) (pa : Il) (te : Fo) (ac : Fo) (r : Ps) (j : Nat) (Apa Ate Aac : Option Addr) (Cpa Cte Cac : Nat), Sees w W → xs.drop j = .cons us bk pa te ac r → pa.Lies W Apa → te.Lies W Ate → ac.Lies W Aac → Calls Try.prog 199 #[.agg #[.int .i64 us, .bool bk, .slice Apa pa.len Cpa, .slice Ate te.len Cte, .slice Aac ac.len Cac], .pointer (some ⟨bh, 0, none⟩)] W fun e w' => e = .returned (.bool (!G us bk pa te ac)) ∧ Below W.heap.size W w')) :
    Calls Try.prog 198 #[.slice A xs.len C, .func (.func 199) #[] #[.pointer (some ⟨bh, 0, none⟩)]] w fun e w' => e = .returned (.bool (!(xs.allG G))) ∧ Below w.heap.size w w' := by
  have KI := Lib.hid (indexS_any G bh xs hm A C w hl KC)
  clear hl
  obtain ⟨q, hq⟩ : ∃ q : Bool, q = xs.allG G := ⟨_, rfl⟩
  rw [← hq] at KI ⊢
  clear hq
  go_enter Try.func198, Try.ntmps198
  go_wp2_with fail
  refine KI.out.mono ?_
  rintro e w1 ⟨⟨i, rfl, hi⟩, hb⟩
  by_cases h0 : 0 ≤ i
  · have hi' : q = false := by rw [decide_eq_true h0] at hi; simpa using hi.symm
    subst hi'
    clear hi
    go_wp2_with fail
    go_ret
    exact ⟨rfl, hb⟩
  · have hi' : q = true := by rw [decide_eq_false h0] at hi; simpa using hi.symm
    subst hi'
    clear hi
    have hd : Hid (decide (0 ≤ i) = !true) := decide_eq_false h0
    go_wp2_with fail
    go_ret
    exact ⟨ret_bool hd.out, hb⟩
set_option maxHeartbeats 1500000 in
set_option maxRecDepth 100000 in
theorem everyS_any (G : Int → Bool → Il → Fo → Fo → Bool) (N : Nat) (caps : Array Value) (eg : ∀ args w, (callFunc N args).run Try.prog w = .ok (.enter N args) w) (xs : Ps) (hm : xs.len ≤ 9223372036854775807) (A : Option Addr) (C : Nat) (w : World) (hl : xs.Lies w A)
    (KC : Hid (∀ (W : World) (us : Int) (bk : Bool) (pa : Il) (te : Fo) (ac : Fo) (r : Ps) (j : Nat) (Apa Ate Aac : Option Addr) (Cpa Cte Cac : Nat), Sees w W → xs.drop j = .cons us bk pa te ac r → pa.Lies W Apa → te.Lies W Ate → ac.Lies W Aac → Calls Try.prog N (#[.agg #[.int .i64 us, .bool bk, .slice Apa pa.len Cpa, .slice Ate te.len Cte, .slice Aac ac.len Cac]] ++ caps) W fun e w' => e = .returned (.bool (G us bk pa te ac)) ∧ Below W.heap.size W w')) :
    Calls Try.prog 158 #[.slice A xs.len C, .func (.func N) #[] caps] w fun e w' => e = .returned (.bool (xs.allG G)) ∧ Below w.heap.size w w' := by
  have KI : Hid (∀ W : World, Sees w W → W.cell? ⟨w.heap.size, 0, none⟩ = some (.func (.func N) #[] caps) → Calls Try.prog 198 #[.slice A xs.len C, .func (.func 199) #[] #[.pointer (some ⟨w.heap.size, 0, none⟩)]] W fun e w' => e = .returned (.bool (!(xs.allG G))) ∧ Below W.heap.size W w') := fun W h hc =>
    containsS_any G w.heap.size xs hm A C W (hl.sees h) (fun W' us bk pa te ac r j Apa Ate Aac Cpa Cte Cac h' hx gpa gte gac => every1S_any (G us bk pa te ac) N caps eg w.heap.size us bk pa te ac Apa Ate Aac Cpa Cte Cac W' (kc h' hc) (fun W2 h2 => KC.out W2 us bk pa te ac r j Apa Ate Aac Cpa Cte Cac (Sees.below h (Sees.below h' h2)) hx (gpa.sees h2) (gte.sees h2) (gac.sees h2)))
  clear hl
  obtain ⟨q, hq⟩ : ∃ q : Bool, q = xs.allG G := ⟨_, rfl⟩
  rw [← hq] at KI ⊢
  clear hq
  cases q
  all_goals
    go_enter Try.func158, Try.ntmps158
    go_wp2_with fail
    refine (KI.out _ (by unfold Sees; go_grown) (by simp [go_sem])).mono ?_
    rintro e w1 ⟨rfl, hb⟩
    have B1 : Sees w w1 := Sees.below (by unfold Sees; go_grown) hb
    clear hb
    go_wp2_with fail
    go_ret
    exact ⟨rfl, B1⟩
end Go.Proofs.YtlpgkhdecccmlaaR

namespace Go.Proofs.YtlpgkhdecccmlaaR
open Go.RowKit
set_option linter.unusedVariables false

def Cl.allG (G : Int → Int → Fo → Int → Int → Fo → Int → Int → Ps → Bool) : Cl → Bool
  | .nil => true
  | .cons lk ln lf rk rn rf ru re st r => G lk ln lf rk rn rf ru re st && r.allG G
set_option maxHeartbeats 1500000 in
set_option maxRecDepth 100000 in
theorem every1K_any (q : Bool) (N : Nat) (caps : Array Value) (eg : ∀ args w, (callFunc N args).run Try.prog w = .ok (.enter N args) w) (bh : Nat) (lk : Int) (ln : Int) (lf : Fo) (rk : Int) (rn : Int) (rf : Fo) (ru : Int) (re : Int) (st : Ps) (Alf Arf Ast : Option Addr) (Clf Crf Cst : Nat) (w : World) (hc : w.cell? ⟨bh, 0, none⟩ = some (.func (.func N) #[] caps))
    (KC : Hid (∀ W : World, Sees w W → Calls Try.prog N (#[.agg #[.int .i64 lk, .int .i64 ln, .slice Alf lf.len Clf, .int .i64 rk, .int .i64 rn, .slice Arf rf.len Crf, .int .i64 ru, .int .i64 re, .slice Ast st.len Cst]] ++ caps) W fun e w' => e = .returned (.bool q) ∧ Below W.heap.size W w')) :
    Calls Try.prog 156 #[.agg #[.int .i64 lk, .int .i64 ln, .slice Alf lf.len Clf, .int .i64 rk, .int .i64 rn, .slice Arf rf.len Crf, .int .i64 ru, .int .i64 re, .slice Ast st.len Cst], .pointer (some ⟨bh, 0, none⟩)] w fun e w' => e = .returned (.bool (!q)) ∧ Below w.heap.size w w' := by
  have hc2 := ka (.cells #[.int .i64 lk, .int .i64 ln, .slice Alf lf.len Clf, .int .i64 rk, .int .i64 rn, .slice Arf rf.len Crf, .int .i64 ru, .int .i64 re, .slice Ast st.len Cst] 146) hc
  have KS := Lib.hid (KC.out _ ((Sees.refl w).alloc (.cells #[.int .i64 lk, .int .i64 ln, .slice Alf lf.len Clf, .int .i64 rk, .int .i64 rn, .slice Arf rf.len Crf, .int .i64 ru, .int .i64 re, .slice Ast st.len Cst] 146)))
  clear hc KC
  cases q
  all_goals
    go_enter Try.func156, Try.ntmps156
    go_wp2_with (go_at_fn N; refine KS.out.mono ?_; rintro e w1 ⟨rfl, hb⟩)
    go_ret
    exact ⟨rfl, Sees.below ((Sees.refl w).alloc _) (by assumption)⟩
set_option maxHeartbeats 1500000 in
set_option maxRecDepth 100000 in
theorem indexK_any (G : Int → Int → Fo → Int → Int → Fo → Int → Int → Ps → Bool) (bh : Nat) (xs : Cl) (hm : xs.len ≤ 9223372036854775807) (A : Option Addr) (C : Nat) (w : World) (hl : xs.Lies w A)
    (KC : Hid (∀ (W : World) (lk : Int) (ln : Int) (lf : Fo) (rk : Int) (rn : Int) (rf : Fo) (ru : Int) (re : Int) (st : Ps) (r : Cl) (j : Nat) (Alf Arf Ast : Option Addr) (Clf Crf Cst : Nat), Sees w W → xs.drop j = .cons lk ln lf rk rn rf ru re st r → lf.Lies W Alf → rf.Lies W Arf → st.Lies W Ast → Calls Try.prog 156 #[.agg #[.int .i64 lk, .int .i64 ln, .slice Alf lf.len Clf, .int .i64 rk, .int .i64 rn, .slice Arf rf.len Crf, .int .i64 ru, .int .i64 re, .slice Ast st.len Cst], .pointer (some ⟨bh, 0, none⟩)] W fun e w' => e = .returned (.bool (!G lk ln lf rk rn rf ru re st)) ∧ Below W.heap.size W w')) :
    Calls Try.prog 197 #[.slice A xs.len C, .func (.func 156) #[] #[.pointer (some ⟨bh, 0, none⟩)]] w fun e w' => (∃ i : Int, e = .returned (.int .i64 i) ∧ decide (0 ≤ i) = !(xs.allG G)) ∧ Below w.heap.size w w' := by
  have HD : Hid (xs.allG G = (xs.drop 0).allG G) := by cases xs <;> rfl
  have HH := Lib.hid hl
  clear hl
  go_enter Try.func197, Try.ntmps197
  go_wp2_with fail
  go_loopw [8] (fun i wr => ∃ j : Nat, j ≤ xs.len ∧ i = .int .i64 j ∧ Hid (xs.allG G = (xs.drop j).allG G) ∧ Hid (Below w.heap.size w wr)) (fun i _ => xs.len - (intOf i).toNat)
  case atStart => exact ⟨0, Nat.zero_le _, rfl, HD, Below.refl _ _⟩
  case round =>
    obtain ⟨j, hj, rfl, hq, hw⟩ := hrel
    clear HD
    by_cases hjl : j < xs.len
    · obtain ⟨b, o, rfl, hat⟩ := HH.out (by rintro rfl; simp [Cl.len] at hjl)
      obtain ⟨lk, ln, lf, rk, rn, rf, ru, re, st, r, Alf, Clf, Arf, Crf, Ast, Cst, e1, e2, c0, c1, c2, hl_lf, c3, c4, c5, hl_rf, c6, c7, c8, hl_st⟩ := Cl.Lies.row hat hjl
      have hb := hw.out
      have a0 := kc hb c0; have a1 := kc hb c1; have a2 := kc hb c2; have a3 := kc hb c3; have a4 := kc hb c4; have a5 := kc hb c5; have a6 := kc hb c6; have a7 := kc hb c7; have a8 := kc hb c8
      have KX := Lib.hid (KC.out wr lk ln lf rk rn rf ru re st r j Alf Arf Ast Clf Crf Cst hw.out e1.out (hl_lf.below hw.out) (hl_rf.below hw.out) (hl_st.below hw.out))
      have HA := Lib.hid hat
      have hst : Hid (xs.allG G = (G lk ln lf rk rn rf ru re st && (xs.drop (j + 1)).allG G)) := by
        show _ = _
        rw [hq.out, e1.out, e2.out]; rfl
      obtain ⟨q, hqe⟩ : ∃ q : Bool, q = G lk ln lf rk rn rf ru re st := ⟨_, rfl⟩
      rw [← hqe] at KX hst
      clear hat c0 c1 c2 c3 c4 c5 c6 c7 c8 hl_lf hl_rf hl_st hb hqe hq e1 e2
      have hj0 : (0 : Int) ≤ (j : Int) := Int.natCast_nonneg _
      have hj1 : (j : Int) < (xs.len : Int) := by omega
      cases q
      · have hq2 : Hid (decide ((0 : Int) ≤ (j : Int)) = !(xs.allG G)) := by show _ = _; rw [hst.out, decide_eq_true hj0]; rfl
        go_wp2_with fail
        refine KX.out.mono ?_
        rintro e w1 ⟨rfl, hb1⟩
        have hw2 := Sees.below hw.out hb1
        clear hb1 a0 a1 a2 a3 a4 a5 a6 a7 a8
        go_wp2_with fail
        go_ret
        exact ⟨⟨_, rfl, hq2.out⟩, hw2⟩
      · have hq2 : Hid (xs.allG G = (xs.drop (j + 1)).allG G) := by show _ = _; rw [hst.out]; rfl
        go_wp2_with fail
        refine KX.out.mono ?_
        rintro e w1 ⟨rfl, hb1⟩
        have hw2 := Lib.hid (Sees.below hw.out hb1)
        clear hb1 a0 a1 a2 a3 a4 a5 a6 a7 a8
        go_wp2_with fail
        go_roundw
        case rel => exact ⟨j + 1, by omega, by go_num, hq2, hw2⟩
        case measure => simp [intOf]; omega
    · obtain rfl : j = xs.len := by omega
      have hq2 : Hid (decide ((0 : Int) ≤ -1) = !(xs.allG G)) := by show _ = _; rw [hq.out, Cl.drop_len]; rfl
      clear hq
      go_wp2_with fail
      go_ret
      exact ⟨⟨_, rfl, hq2.out⟩, hw.out⟩
set_option maxHeartbeats 1500000 in
set_option maxRecDepth 100000 in
theorem containsK_any (G : Int → Int → Fo → Int → Int → Fo → Int → Int → Ps → Bool) (bh : Nat) (xs : Cl) (hm : xs.len ≤ 9223372036854775807) (A : Option Addr) (C : Nat) (w : World) (hl : xs.Lies w A)
    (KC : Hid (∀ (W : World) (lk : Int) (ln : Int) (lf : Fo) (rk : Int) (rn : Int) (rf : Fo) (ru : Int) (re : Int) (st : Ps) (r : Cl) (j : Nat) (Alf Arf Ast : Option Addr) (Clf Crf Cst : Nat), Sees w W → xs.drop j = .cons lk ln lf rk rn rf ru re st r → lf.Lies W Alf → rf.Lies W Arf → st.Lies W Ast → Calls Try.prog 156 #[.agg #[.int .i64 lk, .int .i64 ln, .slice Alf lf.len Clf, .int .i64 rk, .int .i64 rn, .slice Arf rf.len Crf, .int .i64 ru, .int .i64 re, .slice Ast st.len Cst], .pointer (some ⟨bh, 0, none⟩)] W fun e w' => e = .returned (.bool (!G lk ln lf rk rn rf ru re st)) ∧ Below W.heap.size W w')) :
    Calls Try.prog 155 #[.slice A xs.len C, .func (.func 156) #[] #[.pointer (some ⟨bh, 0, none⟩)]] w fun e w' => e = .returned (.bool (!(xs.allG G))) ∧ Below w.heap.size w w' := by
  have KI := Lib.hid (indexK_any G bh xs hm A C w hl KC)
  clear hl
  obtain ⟨q, hq⟩ : ∃ q : Bool, q = xs.allG G := ⟨_, rfl⟩
  rw [← hq] at KI ⊢
  clear hq
  go_enter Try.func155, Try.ntmps155
  go_wp2_with fail
  refine KI.out.mono ?_
  rintro e w1 ⟨⟨i, rfl, hi⟩, hb⟩
  by_cases h0 : 0 ≤ i
  · have hi' : q = false := by rw [decide_eq_true h0] at hi; simpa using hi.symm
    subst hi'
    clear hi
    go_wp2_with fail
    go_ret
    exact ⟨rfl, hb⟩
  · have hi' : q = true := by rw [decide_eq_false h0] at hi; simpa using hi.symm
    subst hi'
    clear hi
    have hd : Hid (decide (0 ≤ i) = !true) := decide_eq_false h0
    go_wp2_with fail
    go_ret
    exact ⟨ret_bool hd.out, hb⟩
set_option maxHeartbeats 1500000 in
set_option maxRecDepth 100000 in
theorem everyK_any (G : Int → Int → Fo → Int → Int → Fo → Int → Int → Ps → Bool) (N : Nat) (caps : Array Value) (eg : ∀ args w, (callFunc N args).run Try.prog w = .ok (.enter N args) w) (xs : Cl) (hm : xs.len ≤ 9223372036854775807) (A : Option Addr) (C : Nat) (w : World) (hl : xs.Lies w A)
    (KC : Hid (∀ (W : World) (lk : Int) (ln : Int) (lf : Fo) (rk : Int) (rn : Int) (rf : Fo) (ru : Int) (re : Int) (st : Ps) (r : Cl) (j : Nat) (Alf Arf Ast : Option Addr) (Clf Crf Cst : Nat), Sees w W → xs.drop j = .cons lk ln lf rk rn rf ru re st r → lf.Lies W Alf → rf.Lies W Arf → st.Lies W Ast → Calls Try.prog N (#[.agg #[.int .i64 lk, .int .i64 ln, .slice Alf lf.len Clf, .int .i64 rk, .int .i64 rn, .slice Arf rf.len Crf, .int .i64 ru, .int .i64 re, .slice Ast st.len Cst]] ++ caps) W fun e w' => e = .returned (.bool (G lk ln lf rk rn rf ru re st)) ∧ Below W.heap.size W w')) :
    Calls Try.prog 98 #[.slice A xs.len C, .func (.func N) #[] caps] w fun e w' => e = .returned (.bool (xs.allG G)) ∧ Below w.heap.size w w' := by
  have KI : Hid (∀ W : World, Sees w W → W.cell? ⟨w.heap.size, 0, none⟩ = some (.func (.func N) #[] caps) → Calls Try.prog 155 #[.slice A xs.len C, .func (.func 156) #[] #[.pointer (some ⟨w.heap.size, 0, none⟩)]] W fun e w' => e = .returned (.bool (!(xs.allG G))) ∧ Below W.heap.size W w') := fun W h hc =>
    containsK_any G w.heap.size xs hm A C W (hl.sees h) (fun W' lk ln lf rk rn rf ru re st r j Alf Arf Ast Clf Crf Cst h' hx glf grf gst => every1K_any (G lk ln lf rk rn rf ru re st) N caps eg w.heap.size lk ln lf rk rn rf ru re st Alf Arf Ast Clf Crf Cst W' (kc h' hc) (fun W2 h2 => KC.out W2 lk ln lf rk rn rf ru re st r j Alf Arf Ast Clf Crf Cst (Sees.below h (Sees.below h' h2)) hx (glf.sees h2) (grf.sees h2) (gst.sees h2)))
  clear hl
  obtain ⟨q, hq⟩ : ∃ q : Bool, q = xs.allG G := ⟨_, rfl⟩
  rw [← hq] at KI ⊢
  clear hq
  cases q
  all_goals
    go_enter Try.func98, Try.ntmps98
    go_wp2_with fail
    refine (KI.out _ (by unfold Sees; go_grown) (by simp [go_sem])).mono ?_
    rintro e w1 ⟨rfl, hb⟩
    have B1 : Sees w w1 := Sees.below (by unfold Sees; go_grown) hb
    clear hb
    go_wp2_with fail
    go_ret
    exact ⟨rfl, B1⟩
end Go.Proofs.YtlpgkhdecccmlaaR
