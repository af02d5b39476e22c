/- Contracts of impl.every at spots, impl.ValidFlow. -/
import Derived.Test.YtlfafcbieeambaaSpH
import Derived.Shelf.Abstract
import Derived.Laws.EntriesVeiled
namespace Go.Proofs.Ytlfafcbieeambaa
open Go.RowKit

set_option maxHeartbeats 400000 in
theorem every1S_any (q : Bool) (N : Nat) (caps : Array Value) (eg : ∀ args w, (callFunc N args).run Try.prog w = .ok (.enter N args) w) (bh : Nat) (x : Sp) (B : Option Addr) (D : Nat) (w : World) (hc : w.cell? ⟨bh, 0, none⟩ = some (.func (.func N) #[] caps))
    (KC : Hid (∀ W : World, Sees w W → Calls Try.prog N (#[.agg #[.int .i64 x.k, .int .i64 x.n, .int .i64 x.ck, .int .i64 x.cn, .slice B x.cf.len D, .int .i64 x.tg, .int .i64 x.el]] ++ caps) W fun e w' => e = .returned (.bool q) ∧ Below W.heap.size W w')) :
    Calls Try.prog 124 #[.agg #[.int .i64 x.k, .int .i64 x.n, .int .i64 x.ck, .int .i64 x.cn, .slice B x.cf.len D, .int .i64 x.tg, .int .i64 x.el], .pointer (some ⟨bh, 0, none⟩)] w fun e w' => e = .returned (.bool (!q)) ∧ Below w.heap.size w w' := by
  have hc2 := ka (.cells #[.int .i64 x.k, .int .i64 x.n, .int .i64 x.ck, .int .i64 x.cn, .slice B x.cf.len D, .int .i64 x.tg, .int .i64 x.el] 119) hc
  have KS := Lib.hid (KC.out _ ((Sees.refl w).alloc (.cells #[.int .i64 x.k, .int .i64 x.n, .int .i64 x.ck, .int .i64 x.cn, .slice B x.cf.len D, .int .i64 x.tg, .int .i64 x.el] 119)))
  clear hc KC
  cases q
  all_goals
    go_enter Try.func124, Try.ntmps124
    go_wp2_with (go_at_fn N; refine KS.out.mono ?_; rintro e w1 ⟨rfl, hb⟩)
    go_ret
    exact ⟨rfl, Sees.below ((Sees.refl w).alloc _) (by assumption)⟩

set_option maxHeartbeats 1000000 in
theorem indexS_any (G : Sp → Bool) (bh : Nat) (xs : List Sp) (hm : xs.length ≤ 9223372036854775807) (A : Option Addr) (C : Nat) (w : World) (hl : SpL w xs A)
    (KC : Hid (∀ (W : World) (x : Sp) (B : Option Addr) (D : Nat), Sees w W → x ∈ xs → x.cf.Lies W B → Calls Try.prog 124 #[.agg #[.int .i64 x.k, .int .i64 x.n, .int .i64 x.ck, .int .i64 x.cn, .slice B x.cf.len D, .int .i64 x.tg, .int .i64 x.el], .pointer (some ⟨bh, 0, none⟩)] W fun e w' => e = .returned (.bool (!G x)) ∧ Below W.heap.size W w')) :
    Calls Try.prog 157 #[.slice A xs.length C, .func (.func 124) #[] #[.pointer (some ⟨bh, 0, none⟩)]] w fun e w' => (∃ i : Int, e = .returned (.int .i64 i) ∧ decide (0 ≤ i) = !(xs.all G)) ∧ Below w.heap.size w w' := by
  have HD : Hid (xs.all G = allS G xs 0) := allS_zero G xs
  have HH := Lib.hid hl
  clear hl
  go_enter Try.func157, Try.ntmps157
  go_wp2_with fail
  go_loopw [8] (fun i wr => ∃ j : Nat, j ≤ xs.length ∧ i = .int .i64 j ∧ Hid (xs.all G = allS G xs j) ∧ Hid (Below w.heap.size w wr)) (fun i _ => xs.length - (intOf i).toNat)
  case atStart => exact ⟨0, Nat.zero_le _, rfl, HD, Below.refl _ _⟩
  case round =>
    obtain ⟨j, hj, rfl, hq, hw⟩ := hrel
    clear HD
    by_cases hjl : j < xs.length
    · obtain ⟨b, o, rfl, hat⟩ := HH.out (by rintro rfl; simp at hjl)
      obtain ⟨B, D, c', hQ⟩ := hat j xs[j] (List.getElem?_eq_getElem hjl)
      have hst0 := allS_step G xs hjl
      have hin := List.getElem_mem hjl
      obtain ⟨x, hx⟩ : ∃ x, x = xs[j] := ⟨_, rfl⟩
      rw [← hx] at c' hst0 hin hQ
      obtain ⟨c0, c1, c2, c3, c4, c5, c6⟩ := c'.below hw.out
      have KX := Lib.hid (KC.out wr x B D hw.out hin (hQ.below hw.out))
      have HA := Lib.hid hat
      have hst : Hid (xs.all G = (G x && allS G xs (j + 1))) := hq.out.trans hst0
      obtain ⟨q, hqe⟩ : ∃ q : Bool, q = G x := ⟨_, rfl⟩
      rw [← hqe] at KX hst
      clear hat hst0 c' hx hin hQ hqe hq
      have hj0 : (0 : Int) ≤ (j : Int) := Int.natCast_nonneg _
      have hj1 : (j : Int) < (xs.length : Int) := by omega
      cases q
      · have hq2 : Hid (decide ((0 : Int) ≤ (j : Int)) = !(xs.all G)) := by show _ = _; rw [hst.out, decide_eq_true hj0]; rfl
        go_wp2_with fail
        refine KX.out.mono ?_
        rintro e w1 ⟨rfl, hb1⟩
        have hw2 := Sees.below hw.out hb1
        clear hb1 c0 c1 c2 c3 c4 c5 c6
        go_wp2_with fail
        go_ret
        exact ⟨⟨_, rfl, hq2.out⟩, hw2⟩
      · have hq2 : Hid (xs.all G = allS G xs (j + 1)) := by show _ = _; rw [hst.out]; rfl
        go_wp2_with fail
        refine KX.out.mono ?_
        rintro e w1 ⟨rfl, hb1⟩
        have hw2 := Lib.hid (Sees.below hw.out hb1)
        clear hb1 c0 c1 c2 c3 c4 c5 c6
        go_wp2_with fail
        go_roundw
        case rel => exact ⟨j + 1, by omega, by go_num, hq2, hw2⟩
        case measure => simp [intOf]; omega
    · obtain rfl : j = xs.length := by omega
      have hq2 : Hid (decide ((0 : Int) ≤ -1) = !(xs.all G)) := by show _ = _; rw [hq.out, allS_end]; rfl
      clear hq
      go_wp2_with fail
      go_ret
      exact ⟨⟨_, rfl, hq2.out⟩, hw.out⟩

set_option maxHeartbeats 400000 in
theorem containsS_any (G : Sp → Bool) (bh : Nat) (xs : List Sp) (hm : xs.length ≤ 9223372036854775807) (A : Option Addr) (C : Nat) (w : World) (hl : SpL w xs A)
    (KC : Hid (∀ (W : World) (x : Sp) (B : Option Addr) (D : Nat), Sees w W → x ∈ xs → x.cf.Lies W B → Calls Try.prog 124 #[.agg #[.int .i64 x.k, .int .i64 x.n, .int .i64 x.ck, .int .i64 x.cn, .slice B x.cf.len D, .int .i64 x.tg, .int .i64 x.el], .pointer (some ⟨bh, 0, none⟩)] W fun e w' => e = .returned (.bool (!G x)) ∧ Below W.heap.size W w')) :
    Calls Try.prog 123 #[.slice A xs.length C, .func (.func 124) #[] #[.pointer (some ⟨bh, 0, none⟩)]] w fun e w' => e = .returned (.bool (!(xs.all G))) ∧ Below w.heap.size w w' := by
  have KI := Lib.hid (indexS_any G bh xs hm A C w hl KC)
  clear hl
  obtain ⟨q, hq⟩ : ∃ q : Bool, q = xs.all G := ⟨_, rfl⟩
  rw [← hq] at KI ⊢
  clear hq
  go_enter Try.func123, Try.ntmps123
  go_wp2_with fail
  refine KI.out.mono ?_
  rintro e w1 ⟨⟨i, rfl, hi⟩, hb⟩
  by_cases h0 : 0 ≤ i
  · have hi' : q = false := by rw [decide_eq_true h0] at hi; simpa using hi.symm
    subst hi'
    clear hi
    go_wp2_with fail
    go_ret
    exact ⟨rfl, hb⟩
  · have hi' : q = true := by rw [decide_eq_false h0] at hi; simpa using hi.symm
    subst hi'
    clear hi
    have hd : Hid (decide (0 ≤ i) = !true) := decide_eq_false h0
    go_wp2_with fail
    go_ret
    exact ⟨ret_bool hd.out, hb⟩

set_option maxHeartbeats 400000 in
theorem everyS_any (G : Sp → Bool) (N : Nat) (caps : Array Value) (eg : ∀ args w, (callFunc N args).run Try.prog w = .ok (.enter N args) w) (xs : List Sp) (hm : xs.length ≤ 9223372036854775807) (A : Option Addr) (C : Nat) (w : World) (hl : SpL w xs A)
    (KC : Hid (∀ (W : World) (x : Sp) (B : Option Addr) (D : Nat), Sees w W → x ∈ xs → x.cf.Lies W B → Calls Try.prog N (#[.agg #[.int .i64 x.k, .int .i64 x.n, .int .i64 x.ck, .int .i64 x.cn, .slice B x.cf.len D, .int .i64 x.tg, .int .i64 x.el]] ++ caps) W fun e w' => e = .returned (.bool (G x)) ∧ Below W.heap.size W w')) :
    Calls Try.prog 76 #[.slice A xs.length C, .func (.func N) #[] caps] w fun e w' => e = .returned (.bool (xs.all G)) ∧ Below w.heap.size w w' := by
  have KI : Hid (∀ W : World, Sees w W → W.cell? ⟨w.heap.size, 0, none⟩ = some (.func (.func N) #[] caps) → Calls Try.prog 123 #[.slice A xs.length C, .func (.func 124) #[] #[.pointer (some ⟨w.heap.size, 0, none⟩)]] W fun e w' => e = .returned (.bool (!(xs.all G))) ∧ Below W.heap.size W w') := fun W h hc =>
    containsS_any G w.heap.size xs hm A C W (hl.below h) (fun W' x B D h' hx hQ => every1S_any (G x) N caps eg w.heap.size x B D W' (kc h' hc) (fun W2 h2 => KC.out W2 x B D (Sees.below h (Sees.below h' h2)) hx (hQ.below h2)))
  clear hl
  obtain ⟨q, hq⟩ : ∃ q : Bool, q = xs.all G := ⟨_, rfl⟩
  rw [← hq] at KI ⊢
  clear hq
  cases q
  all_goals
    go_enter Try.func76, Try.ntmps76
    go_wp2_with fail
    refine (KI.out _ (by unfold Sees; go_grown) (by simp [go_sem])).mono ?_
    rintro e w1 ⟨rfl, hb⟩
    have B1 : Sees w w1 := Sees.below (by unfold Sees; go_grown) hb
    clear hb
    go_wp2_with fail
    go_ret
    exact ⟨rfl, B1⟩

set_option maxHeartbeats 1000000 in
set_option maxRecDepth 100000 in
theorem formOf_any (t a n : Int) (bg bn : Nat) (x : Sp) (hm : x.cf.nodes ≤ 1048576) (hf : x.cf.Fits) (B : Option Addr) (D : Nat) (w : World) (hg0 : w.cell? ⟨bg, 0, none⟩ = some (.int .i64 t)) (hg1 : w.cell? ⟨bg, 1, none⟩ = some (.int .i64 a)) (hn : w.cell? ⟨bn, 0, none⟩ = some (.int .i64 n)) (hA : x.cf.Lies w B) :
    Calls Try.prog 77 #[.agg #[.int .i64 x.k, .int .i64 x.n, .int .i64 x.ck, .int .i64 x.cn, .slice B x.cf.len D, .int .i64 x.tg, .int .i64 x.el], .pointer (some ⟨bg, 0, none⟩), .pointer (some ⟨bn, 0, none⟩)] w fun e w' => e = .returned (.bool (spB t a n x)) ∧ Below w.heap.size w w' := by
  obtain ⟨q, hq⟩ : ∃ q : Bool, q = spB t a n x := ⟨_, rfl⟩
  have K : Hid (∀ W : World, Sees w W → Calls Try.prog 78 #[.agg #[.int .i64 x.k, .int .i64 x.n, .int .i64 x.ck, .int .i64 x.cn, .slice B x.cf.len D, .int .i64 x.tg, .int .i64 x.el], .agg #[.int .i64 t, .int .i64 a], .int .i64 n] W fun e w' => e = .returned (.bool q) ∧ Below W.heap.size W w') := fun W h => by rw [hq]; exact hasForm_any t a n x hm hf B D W (hA.sees h)
  have y0 := ka (.cells #[.int .i64 x.k, .int .i64 x.n, .int .i64 x.ck, .int .i64 x.cn, .slice B x.cf.len D, .int .i64 x.tg, .int .i64 x.el] 119) hg0; have y1 := ka (.cells #[.int .i64 x.k, .int .i64 x.n, .int .i64 x.ck, .int .i64 x.cn, .slice B x.cf.len D, .int .i64 x.tg, .int .i64 x.el] 119) hg1; have y2 := ka (.cells #[.int .i64 x.k, .int .i64 x.n, .int .i64 x.ck, .int .i64 x.cn, .slice B x.cf.len D, .int .i64 x.tg, .int .i64 x.el] 119) hn
  rw [← hq]
  clear hq hm hf hA hg0 hg1 hn
  go_enter Try.func77, Try.ntmps77
  go_wp2_with fail
  refine (K.out _ ((Sees.refl w).alloc _)).mono ?_
  rintro e w1 ⟨rfl, hb⟩
  have B1 : Sees w w1 := Sees.below ((Sees.refl w).alloc _) hb
  clear hb
  go_wp2_with fail
  go_ret
  exact ⟨rfl, B1⟩

set_option maxHeartbeats 2000000 in
set_option maxRecDepth 100000 in
theorem implValidFlow_any (t a s : Int) (xs : List Sp) (hf : FitSp xs) (hm : tot Sp.cnt xs ≤ 1048576) (A : Option Addr) (C : Nat) (w : World) (hA : SpL w xs A) :
    Calls Try.prog 33 #[.agg #[.int .i64 t, .int .i64 a], .agg #[.int .i64 s, .slice A xs.length C]] w fun e w' => e = .returned (.bool (flowB t a s xs)) ∧ Below w.heap.size w w' := by
  have hlen := sp_len xs
  obtain ⟨q0, hq0⟩ : ∃ q : Bool, q = sigOk t a := ⟨_, rfl⟩
  have K0 : Hid (∀ W : World, Calls Try.prog 64 #[.agg #[.int .i64 t, .int .i64 a]] W fun e w' => e = .returned (.bool q0) ∧ Below W.heap.size W w') := fun W => by rw [hq0]; exact implValidSig_any t a W
  obtain ⟨q2, hq2⟩ : ∃ q : Bool, q = belowB s xs.length := ⟨_, rfl⟩
  have K2 : Hid (∀ W : World, Calls Try.prog 66 #[.int .i64 s, .int .i64 (xs.length : Int)] W fun e w' => e = .returned (.bool q2) ∧ Below W.heap.size W w') := fun W => (below_any s xs.length W).mono fun e w' h => ⟨by rw [hq2]; exact h.1, by rw [← h.2]; exact Below.refl _ _⟩
  obtain ⟨q3, hq3⟩ : ∃ q : Bool, q = xs.all (spB t a xs.length) := ⟨_, rfl⟩
  have K3 : Hid (∀ (W : World) (bg bn : Nat), Sees w W → W.cell? ⟨bg, 0, none⟩ = some (.int .i64 t) → W.cell? ⟨bg, 1, none⟩ = some (.int .i64 a) → W.cell? ⟨bn, 0, none⟩ = some (.int .i64 (xs.length : Int)) → Calls Try.prog 76 #[.slice A xs.length C, .func (.func 77) #[] #[.pointer (some ⟨bg, 0, none⟩), .pointer (some ⟨bn, 0, none⟩)]] W fun e w' => e = .returned (.bool q3) ∧ Below W.heap.size W w') := fun W bg bn h h0 h1 h2 => by
    rw [hq3]
    exact everyS_any (spB t a xs.length) 77 #[.pointer (some ⟨bg, 0, none⟩), .pointer (some ⟨bn, 0, none⟩)] (enters_of Try.func77 (by kernel_rfl) rfl) xs hf.1 A C W (hA.sees h) (fun W2 x B2 D2 h2' hx hQ => formOf_any t a xs.length bg bn x (Nat.le_trans (sp_ge hx) hm) (hf.2 x hx).2 B2 D2 W2 (kc h2' h0) (kc h2' h1) (kc h2' h2) hQ)
  have HS : Hid (flowB t a s xs = (q0 && (decide ((xs.length : Int) ≤ 60) && (q2 && q3)))) := by
    show _ = _
    unfold flowB
    rw [in_below, ← hq0, ← hq2, ← hq3]
    by_cases h1 : 1 ≤ xs.length
    · have : inB (xs.length : Int) 1 60 = decide ((xs.length : Int) ≤ 60) := by unfold inB; rw [Bool.eq_iff_iff]; simp; omega
      rw [this]
    · have h2 : q2 = false := by rw [hq2]; unfold belowB; simp; omega
      rw [h2]
      cases q0 <;> cases inB (xs.length : Int) 1 60 <;> cases decide ((xs.length : Int) ≤ 60) <;> rfl
  obtain ⟨w0, hw0⟩ : ∃ w0, w0 = ((w.alloc (.cells #[.int .i64 t, .int .i64 a] 34)).alloc (.cells #[.int .i64 s, .slice A xs.length C] 69)).alloc (.cells #[.int .i64 (xs.length : Int)] 2) := ⟨_, rfl⟩
  have B0 : Sees w w0 := by rw [hw0]; exact (((Sees.refl w).alloc _).alloc _).alloc _
  have s0 : w0.cell? ⟨w.heap.size, 0, none⟩ = some (.int .i64 t) := by rw [hw0]; simp [go_sem]
  have s1 : w0.cell? ⟨w.heap.size, 1, none⟩ = some (.int .i64 a) := by rw [hw0]; simp [go_sem]
  have g0 : w0.cell? ⟨w.heap.size + 1, 0, none⟩ = some (.int .i64 s) := by rw [hw0]; simp [go_sem]
  have g1 : w0.cell? ⟨w.heap.size + 1, 1, none⟩ = some (.slice A xs.length C) := by rw [hw0]; simp [go_sem]
  have gn : w0.cell? ⟨w.heap.size + 1 + 1, 0, none⟩ = some (.int .i64 (xs.length : Int)) := by rw [hw0]; simp [go_sem]
  clear hq0 hq2 hq3 hA hf hm
  cases q0
  · have HD : Hid (flowB t a s xs = false) := by show _ = _; rw [HS.out]; rfl
    clear HS K2 K3
    go_enter Try.func33, Try.ntmps33
    go_wp2_with fail
    rw [← hw0]
    refine (K0.out _).mono ?_
    rintro e w1 ⟨rfl, hb⟩
    have x0 := kc hb s0; have x1 := kc hb s1; have y0 := kc hb g0; have y1 := kc hb g1; have yn := kc hb gn
    have B1 : Sees w w1 := B0.below hb
    clear hw0 g0 g1 gn s0 s1 hb B0
    go_wp2_with fail
    go_ret
    exact ⟨ret_bool HD.out.symm, B1⟩
  by_cases hhi : (xs.length : Int) ≤ 60
  case neg =>
    have HD : Hid (flowB t a s xs = false) := by show _ = _; rw [HS.out, decide_eq_false hhi]; rfl
    have tl : decide ((xs.length : Int) ≤ 60) = false := decide_eq_false hhi
    clear HS K2 K3
    go_enter Try.func33, Try.ntmps33
    go_wp2_with fail
    rw [← hw0]
    refine (K0.out _).mono ?_
    rintro e w1 ⟨rfl, hb⟩
    have x0 := kc hb s0; have x1 := kc hb s1; have y0 := kc hb g0; have y1 := kc hb g1; have yn := kc hb gn
    have B1 : Sees w w1 := B0.below hb
    clear hw0 g0 g1 gn s0 s1 hb B0
    go_wp2_with fail
    go_ret
    exact ⟨ret_bool HD.out.symm, B1⟩
  have tl : decide ((xs.length : Int) ≤ 60) = true := decide_eq_true hhi
  rw [tl] at HS
  cases q2
  · have HD : Hid (flowB t a s xs = false) := by show _ = _; rw [HS.out]; rfl
    clear HS K3
    go_enter Try.func33, Try.ntmps33
    go_wp2_with fail
    rw [← hw0]
    refine (K0.out _).mono ?_
    rintro e w1 ⟨rfl, hb⟩
    have x0 := kc hb s0; have x1 := kc hb s1; have y0 := kc hb g0; have y1 := kc hb g1; have yn := kc hb gn
    have B1 : Sees w w1 := B0.below hb
    clear hw0 g0 g1 gn s0 s1 hb B0
    go_wp2_with fail
    refine (K2.out _).mono ?_
    rintro e w2 ⟨rfl, hb⟩
    have B2 := B1.below hb
    clear hb
    go_wp2_with fail
    go_ret
    exact ⟨ret_bool HD.out.symm, B2⟩
  · have HD : Hid (flowB t a s xs = q3) := by show _ = _; rw [HS.out]; rfl
    clear HS
    go_enter Try.func33, Try.ntmps33
    go_wp2_with fail
    rw [← hw0]
    refine (K0.out _).mono ?_
    rintro e w1 ⟨rfl, hb⟩
    have x0 := kc hb s0; have x1 := kc hb s1; have y0 := kc hb g0; have y1 := kc hb g1; have yn := kc hb gn
    have B1 : Sees w w1 := B0.below hb
    clear hw0 g0 g1 gn s0 s1 hb B0
    go_wp2_with fail
    refine (K2.out _).mono ?_
    rintro e w2 ⟨rfl, hb⟩
    have B2 := B1.below hb
    have v0 := kc hb x0; have v1 := kc hb x1; have v2 := kc hb y0; have v3 := kc hb y1; have v4 := kc hb yn
    clear hb x0 x1 y0 y1 yn B1
    go_wp2_with fail
    refine (K3.out _ w.heap.size (w.heap.size + 1 + 1) B2 v0 v1 v4).mono ?_
    rintro e w3 ⟨rfl, hb⟩
    have B3 := B2.below hb
    clear hb
    go_wp2_with fail
    go_ret
    exact ⟨ret_bool HD.out.symm, B3⟩
end Go.Proofs.Ytlfafcbieeambaa
