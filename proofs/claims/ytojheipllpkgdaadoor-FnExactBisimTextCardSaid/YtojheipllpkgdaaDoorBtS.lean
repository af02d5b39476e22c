/- Contract of spec.BisimText. -/
import Derived.Test.YtojheipllpkgdaaDoorBtD
import Derived.Test.YtojheipllpkgdaaDoorTxS
namespace Go.Proofs.YtojheipllpkgdaaDoor
open Go.RowKit
set_option linter.unusedVariables false

set_option maxHeartbeats 4000000 in
set_option maxRecDepth 100000 in
theorem specBisimText_any (t a : Int) (xs : Pp) (hm : xs.nodes ≤ 1048576) (hf : xs.Fits) (A : Option Addr) (C : Nat) (w : World) (hA : xs.Lies w A) :
    Calls Tryd.prog 26 #[.agg #[.int .i64 t, .int .i64 a], .slice A xs.len C] w fun e w' => e = .returned (.string ⟨(bisT t a xs).toArray⟩) ∧ Below w.heap.size w w' := by
  have hlen := xs.len_le_nodes
  obtain ⟨q0, hq0⟩ : ∃ q : Bool, q = listedB t a xs := ⟨_, rfl⟩
  have K0 : Hid (∀ W : World, Sees w W → Calls Tryd.prog 54 #[.agg #[.int .i64 t, .int .i64 a], .slice A xs.len C] W fun e w' => e = .returned (.bool q0) ∧ Below W.heap.size W w') := fun W h => by rw [hq0]; exact l03Listed_any t a xs hm hf A C W (hA.sees h)
  cases q0
  · have HD : bisT t a xs = [] := if_neg (by rw [← hq0]; decide)
    rw [HD]
    clear hq0 HD hA
    go_enter Tryd.func26, Tryd.ntmps26
    go_wp2_with fail
    refine (K0.out _ (by unfold Sees; go_grown)).mono ?_
    rintro e w1 ⟨rfl, hb⟩
    have B1 : Sees w w1 := Sees.below (by unfold Sees; go_grown) hb
    clear hb
    go_wp2_with fail
    go_ret
    exact ⟨rfl, B1⟩
  obtain ⟨⟨ht, ha⟩, hform⟩ := listed_parts hq0.symm
  have HT := Lib.hid (And.intro ht ha)
  have HV : bisT t a xs = xs.txt := if_pos hq0.symm
  rw [HV]
  have htl := Pp.txt_len ht ha xs (by have h := hform; cases xs <;> exact h)
  obtain ⟨n, hn⟩ : ∃ n : Nat, n = xs.txt.length := ⟨_, rfl⟩
  have HN : Hid (xs.txt.length = n ∧ n ≤ 14680064) := ⟨hn.symm, by omega⟩
  have HF0 := Lib.hid hform
  have HX0 : Hid (xs.txt = [] ++ (xs.drop 0).txt) := by show _ = _; rw [Pp.txt_drop0]; rfl
  have HA := Lib.hid hA; have HM := Lib.hid hm; have HF := Lib.hid hf
  clear hq0 HV hA ht ha hform htl hn hf
  go_enter Tryd.func26, Tryd.ntmps26
  go_wp2_with fail
  refine (K0.out _ (by unfold Sees; go_grown)).mono ?_
  rintro e w1 ⟨rfl, hb⟩
  have B1 : Hid (Sees w w1) := Sees.below (by unfold Sees; go_grown) hb
  clear hb K0
  go_wp2_with fail
  go_loopw [5, 6] (fun s i wr => ∃ (j : Nat) (pre : List UInt8), j ≤ xs.len ∧ i = .int .i64 j ∧ s = .string ⟨pre.toArray⟩ ∧ Hid (xs.txt = pre ++ (xs.drop j).txt) ∧ Hid ((xs.drop j).form t a = true) ∧ Hid (Sees w wr)) (fun _ i _ => xs.len - (intOf i).toNat)
  case atStart => exact ⟨0, [], Nat.zero_le _, rfl, rfl, HX0, HF0, B1⟩
  case round =>
    obtain ⟨j, pre, hj, rfl, rfl, hx, hfo, hS⟩ := hrel
    clear HX0 HF0 B1
    by_cases hjl : j < xs.len
    · obtain ⟨c, p, rfl, hat⟩ := HA.out (by rintro rfl; simp [Pp.len] at hjl)
      obtain ⟨lk, ln, lf, rk, rn, rf, r, Alf, Clf, Arf, Crf, e1, e2, c0, c1, c2, hl_lf, c3, c4, c5, hl_rf⟩ := Pp.Lies.row hat hjl
      have hnd := xs.nodes_drop j
      have hmm := HM.out
      have hfo0 := hfo.out
      have hx0 := hx.out
      rw [e1.out] at hnd hfo0 hx0
      have hn2 : lf.nodes ≤ 1048576 ∧ rf.nodes ≤ 1048576 := by simp only [Pp.nodes] at hnd; omega
      have hfo1 : (pairF t a lk ln lf rk rn rf && r.form t a) = true := hfo0
      rw [Bool.and_eq_true] at hfo1
      have HFO : Hid ((xs.drop (j + 1)).form t a = true) := by show _ = _; rw [e2.out]; exact hfo1.2
      have HX : Hid (xs.txt = (pre ++ pairT lk ln lf rk rn rf) ++ (xs.drop (j + 1)).txt) := by show _ = _; rw [e2.out, List.append_assoc]; exact hx0
      have hle : (pre ++ pairT lk ln lf rk rn rf).length ≤ 14680064 := by
        have h1 := HX.out
        have h2 := HN.out
        have h3 := congrArg List.length h1
        rw [List.length_append] at h3
        omega
      have pf := pairF_both hfo1.1
      obtain ⟨la, hla⟩ : ∃ l, l = (ndE lf lk ln).tx := ⟨_, rfl⟩
      obtain ⟨lb, hlb⟩ : ∃ l, l = (ndE rf rk rn).tx := ⟨_, rfl⟩
      have hpt : pairT lk ln lf rk rn rf = la ++ [32, 61, 32] ++ lb ++ [10] := by rw [hla, hlb]; rfl
      rw [hpt] at HX hle
      simp only [List.length_append, List.length_cons, List.length_nil] at hle
      obtain ⟨s0, hs0⟩ : ∃ s : ByteArray, s = ⟨pre.toArray⟩ := ⟨_, rfl⟩
      obtain ⟨s1, hs1⟩ : ∃ s : ByteArray, s = ⟨la.toArray⟩ := ⟨_, rfl⟩
      obtain ⟨s2, hs2⟩ : ∃ s : ByteArray, s = ⟨lb.toArray⟩ := ⟨_, rfl⟩
      obtain ⟨s3, hs3⟩ : ∃ s : ByteArray, s = ⟨(la ++ [32, 61, 32]).toArray⟩ := ⟨_, rfl⟩
      obtain ⟨s4, hs4⟩ : ∃ s : ByteArray, s = ⟨(la ++ [32, 61, 32] ++ lb).toArray⟩ := ⟨_, rfl⟩
      obtain ⟨s5, hs5⟩ : ∃ s : ByteArray, s = ⟨(la ++ [32, 61, 32] ++ lb ++ [10]).toArray⟩ := ⟨_, rfl⟩
      obtain ⟨s6, hs6⟩ : ∃ s : ByteArray, s = ⟨(pre ++ (la ++ [32, 61, 32] ++ lb ++ [10])).toArray⟩ := ⟨_, rfl⟩
      have KA : Hid (∀ W : World, Sees w W → Calls Tryd.prog 55 #[.pointer (some ⟨c, p + j * 6, none⟩)] W fun e w' => e = .returned (.string s1) ∧ Below W.heap.size W w') := fun W h => by
        rw [hs1, hla]; exact l01Text_any (lf.nodes + 1) lf (Nat.lt_succ_self _) (by omega) t a false lk ln Alf Clf c (p + j * 6) W HT.out.1 HT.out.2 (hl_lf.sees h) pf.1 (kc h c0) (kc h c1) (kc h c2)
      have KB : Hid (∀ W : World, Sees w W → Calls Tryd.prog 55 #[.pointer (some ⟨c, p + j * 6 + 3, none⟩)] W fun e w' => e = .returned (.string s2) ∧ Below W.heap.size W w') := fun W h => by
        rw [hs2, hlb]; exact l01Text_any (rf.nodes + 1) rf (Nat.lt_succ_self _) (by omega) t a false rk rn Arf Crf c (p + j * 6 + 3) W HT.out.1 HT.out.2 (hl_rf.sees h) pf.2 (kc h c3) (kc h c4) (kc h c5)
      have q1 : ∀ W : World, (Op.stringOp .add s1 ⟨#[32, 61, 32]⟩).run Tryd.prog W = .ok (.string s3) W := by rw [hs1, hs3]; exact fun W => add_any la [32, 61, 32] (by simp only [List.length_cons, List.length_nil]; omega) W
      have q2 : ∀ W : World, (Op.stringOp .add s3 s2).run Tryd.prog W = .ok (.string s4) W := by rw [hs3, hs2, hs4]; exact fun W => add_any (la ++ [32, 61, 32]) lb (by simp only [List.length_append, List.length_cons, List.length_nil]; omega) W
      have q3 : ∀ W : World, (Op.stringOp .add s4 ⟨#[10]⟩).run Tryd.prog W = .ok (.string s5) W := by rw [hs4, hs5]; exact fun W => add_any (la ++ [32, 61, 32] ++ lb) [10] (by simp only [List.length_append, List.length_cons, List.length_nil]; omega) W
      have q4 : ∀ W : World, (Op.stringOp .add s0 s5).run Tryd.prog W = .ok (.string s6) W := by rw [hs0, hs5, hs6]; exact fun W => add_any pre (la ++ [32, 61, 32] ++ lb ++ [10]) (by simp only [List.length_append, List.length_cons, List.length_nil]; omega) W
      rw [← hs0]
      have HS6 := Lib.hid hs6
      have JL := Lib.hid hjl
      have j0 : (0 : Int) ≤ (j : Int) := Int.natCast_nonneg _
      have j1 : (j : Int) < (xs.len : Int) := by omega
      have hX : Hid (St w [] wr) := ⟨hS.out, trivial⟩
      clear hat c0 c1 c2 c3 c4 c5 hl_lf hl_rf hnd hmm hfo0 hx0 hn2 hfo1 hle pf hla hlb hpt hs0 hs1 hs2 hs3 hs4 hs5 hs6 hx hfo hS e1 e2 hjl
      go_wp2_with fail
      refine wp_region_quietC w [] (by kernel_rfl) (by kernel_rfl) hX.out ?_
      repeat (first | go_big_quiet_skip | (go_big_quiet_want; apply Exists.intro; refine ⟨fun W hW => ?_, ?_⟩; focus (have hK := Lib.hid hW; obtain ⟨hs, hc⟩ := hW; simp only [Has] at hc; go_simp; (first | ((with_reducible refine quietC_call hK.out (KA.out _ ?_)); exact hK.out.1) | ((with_reducible refine quietC_call hK.out (KB.out _ ?_)); exact hK.out.1) | rfl))) | (go_simp; go_big_quiet_on))
      refine wpQuiet_nil ?_
      intro w2 H2
      have B2 := Lib.hid H2.1
      clear H2 hX KA KB q1 q2 q3 q4
      go_wp2_with fail
      go_roundw
      case rel => exact ⟨j + 1, pre ++ (la ++ [32, 61, 32] ++ lb ++ [10]), JL.out, by go_num, by rw [HS6.out], HX, HFO, B2⟩
      case measure => have := JL.out; simp [intOf]; omega
    · obtain rfl : j = xs.len := by omega
      have HE : Hid (xs.txt = pre) := by show _ = _; rw [hx.out, Pp.drop_len]; show pre ++ [] = pre; rw [List.append_nil]
      clear hx hfo
      go_wp2_with fail
      go_ret
      exact ⟨congrArg (fun l : List UInt8 => Ending.returned (.string ⟨l.toArray⟩)) HE.out.symm, hS.out⟩

end Go.Proofs.YtojheipllpkgdaaDoor
