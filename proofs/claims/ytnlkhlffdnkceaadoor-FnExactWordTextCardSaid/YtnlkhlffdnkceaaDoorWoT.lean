/- Contracts of spec.WordText, impl.WordText. -/
import Derived.Test.YtnlkhlffdnkceaaDoorDec
import Derived.Test.YtnlkhlffdnkceaaDoorTxB
import Derived.Test.YtnlkhlffdnkceaaDoorVWord
import Derived.Test.YtnlkhlffdnkceaaDoorVWordI
import Derived.Deep.RegionWith
namespace Go.Proofs.YtnlkhlffdnkceaaDoor
open Go.RowKit

/-- The text of a word up to a place. -/
def wtx (p r : List Int) : Nat → List UInt8
  | 0 => Lib.decDigits (nth p 0).toNat
  | j + 1 => wtx p r j ++ ([32, 97] ++ Lib.decDigits (nth r j).toNat ++ [32] ++ Lib.decDigits (nth p (j + 1)).toNat)
theorem wtx_succ (p r : List Int) (j : Nat) : wtx p r (j + 1) = wtx p r j ++ ([32, 97] ++ Lib.decDigits (nth r j).toNat ++ [32] ++ Lib.decDigits (nth p (j + 1)).toNat) := rfl
theorem Sees.below' {w W W' : World} {B : Nat} (h : Sees w W) (hb : Below B W W') (hB : w.heap.size ≤ B) : Sees w W' := Below.trans h (hb.mono hB)
def woT (t a : Int) (p r : List Int) : List UInt8 := if validW t a p r = true then wtx p r r.length else []
theorem all_nth {f : Int → Bool} {xs : List Int} (h : xs.all f = true) (j : Nat) (hj : j < xs.length) : f (nth xs j) = true := by
  rw [List.all_eq_true] at h
  have e : nth xs j = xs[j] := by simp [nth, List.getD, hj]
  rw [e]
  exact h _ (List.getElem_mem _)
/-- What a valid word is. -/
theorem validW_parts {t a : Int} {p r : List Int} (h : validW t a p r = true) : r.length ≤ 10 ∧ p.length = r.length + 1 ∧ (∀ j, j < p.length → 0 ≤ nth p j ∧ nth p j < 10) ∧ (∀ j, j < r.length → 0 ≤ nth r j ∧ nth r j < 10) := by
  unfold validW at h
  simp only [Bool.and_eq_true, decide_eq_true_eq] at h
  obtain ⟨⟨⟨⟨h1, h2⟩, h3⟩, h4⟩, h5⟩ := h
  have hs := sigOk_of h1
  have hn := atomsN_bd t
  refine ⟨h2, h3, fun j hj => ?_, fun j hj => ?_⟩
  · have := all_nth h4 j hj
    unfold atomB inB at this
    have := of_decide_eq_true this
    omega
  · have := all_nth h5 j hj
    unfold actB inB at this
    have := of_decide_eq_true this
    omega
theorem wtx_len {p r : List Int} (hp : ∀ j, j < p.length → 0 ≤ nth p j ∧ nth p j < 10) (hr : ∀ j, j < r.length → 0 ≤ nth r j ∧ nth r j < 10) (hl : p.length = r.length + 1) : ∀ j, j ≤ r.length → (wtx p r j).length = 1 + 5 * j := by
  intro j
  induction j with
  | zero => intro _; have := hp 0 (by omega); unfold wtx; rw [Lib.decDigits_one (by omega)]; rfl
  | succ j ih =>
    intro h
    have h1 := ih (by omega)
    have h2 := hr j (by omega)
    have h3 := hp (j + 1) (by omega)
    unfold wtx
    rw [Lib.decDigits_one (show (nth r j).toNat < 10 by omega), Lib.decDigits_one (show (nth p (j + 1)).toNat < 10 by omega)]
    simp only [List.length_append, List.length_cons, List.length_nil]
    omega
theorem dig1 {n : Int} (h : 0 ≤ n ∧ n < 10) : (Lib.decDigits n.toNat).length = 1 := by rw [Lib.decDigits_one (by omega)]; rfl

set_option maxRecDepth 100000 in
set_option maxHeartbeats 1500000 in
theorem specWordText_any (t a : Int) (p r : List Int) (h0 : p.length + r.length ≤ 1048576) (A B : Option Addr) (C D : Nat) (w : World) (hl : Ints w p A) (hr : Ints w r B) :
    Calls Tryd.prog 14 #[.agg #[.int .i64 t, .int .i64 a], .agg #[.slice A p.length C, .slice B r.length D]] w fun e w' => e = .returned (.string ⟨(woT t a p r).toArray⟩) ∧ Below w.heap.size w w' := by
  obtain ⟨q1, hq1⟩ : ∃ q1 : Bool, q1 = validW t a p r := ⟨_, rfl⟩
  have K1 : Hid (∀ W : World, St w [(w.heap.size, 0, .int .i64 t), (w.heap.size, 1, .int .i64 a), (w.heap.size + 1, 0, .slice A p.length C), (w.heap.size + 1, 1, .slice B r.length D)] W → Calls Tryd.prog 37 #[.agg #[.int .i64 t, .int .i64 a], .pointer (some ⟨w.heap.size + 1, 0, none⟩)] W fun e w' => e = .returned (.bool q1) ∧ Below W.heap.size W w') :=
    fun W h => by rw [hq1]; exact l01Word_any p r h0 t a A B C D (w.heap.size + 1) 0 W (hl.sees h.1) (hr.sees h.1) h.2.2.2.1 h.2.2.2.2.1
  cases q1
  · have HD : Hid (woT t a p r = []) := by show _ = _; unfold woT; rw [← hq1]; rfl
    rw [HD.out]
    clear hq1 HD
    go_enter Tryd.func14, Tryd.ntmps14
    go_wp2_with fail
    refine (K1.out _ ⟨(by unfold Sees; go_grown), (by simp [go_sem]), (by simp [go_sem]), (by simp [go_sem]), (by simp [go_sem]), trivial⟩).mono ?_
    rintro e w1 ⟨rfl, hb⟩
    have H1 : Hid (St w [(w.heap.size, 0, .int .i64 t), (w.heap.size, 1, .int .i64 a), (w.heap.size + 1, 0, .slice A p.length C), (w.heap.size + 1, 1, .slice B r.length D)] w1) := St.below (l := [(w.heap.size, 0, .int .i64 t), (w.heap.size, 1, .int .i64 a), (w.heap.size + 1, 0, .slice A p.length C), (w.heap.size + 1, 1, .slice B r.length D)]) ⟨(by unfold Sees; go_grown), (by simp [go_sem]), (by simp [go_sem]), (by simp [go_sem]), (by simp [go_sem]), trivial⟩ hb
    clear hb
    obtain ⟨sS, s0, s1, s2, s3, _⟩ := H1.out
    go_wp2_with fail
    go_ret
    exact ⟨rfl, sS⟩
  · obtain ⟨hr10, hpr, hp9, hr9⟩ := validW_parts hq1.symm
    have hwl := wtx_len hp9 hr9 hpr
    have HD : Hid (woT t a p r = wtx p r r.length) := by show _ = _; unfold woT; rw [← hq1]; rfl
    rw [HD.out]
    clear hq1 HD
    obtain ⟨bp, op, rfl, hat⟩ := hl (by rintro rfl; simp at hpr)
    have c0 : w.cell? ⟨bp, op, none⟩ = some (.int .i64 (nth p 0)) := hat 0 (by omega)
    have lbp : bp < w.heap.size := World.block_lt_of_cell? _ _ c0
    have n0 : (0 : Int) < (p.length : Int) := by omega
    have p90 := hp9 0 (by omega)
    have HPR := Lib.hid hpr; have HWL := Lib.hid hwl; have HP9 := Lib.hid hp9; have HR9 := Lib.hid hr9; have HAT := Lib.hid hat
    have HP90 := Lib.hid p90
    clear hpr hwl hp9 hr9 hat p90
    obtain ⟨sv, hsv⟩ : ∃ s : ByteArray, s = ⟨(wtx p r 0).toArray⟩ := ⟨_, rfl⟩
    have KD : Hid (∀ W : World, Calls Tryd.prog 38 #[.int .i64 (nth p 0)] W fun e w' => e = .returned (.string sv) ∧ Below W.heap.size W w') := fun W => by rw [hsv]; exact decimal_one _ HP90.out.1 HP90.out.2 W
    have HSV := Lib.hid hsv
    clear hsv
    go_enter Tryd.func14, Tryd.ntmps14
    go_wp2_with fail
    refine (K1.out _ ⟨(by unfold Sees; go_grown), (by simp [go_sem]), (by simp [go_sem]), (by simp [go_sem]), (by simp [go_sem]), trivial⟩).mono ?_
    rintro e w1 ⟨rfl, hb⟩
    have H1 : Hid (St w [(w.heap.size, 0, .int .i64 t), (w.heap.size, 1, .int .i64 a), (w.heap.size + 1, 0, .slice (some ⟨bp, op, none⟩) p.length C), (w.heap.size + 1, 1, .slice B r.length D)] w1) := St.below (l := [(w.heap.size, 0, .int .i64 t), (w.heap.size, 1, .int .i64 a), (w.heap.size + 1, 0, .slice (some ⟨bp, op, none⟩) p.length C), (w.heap.size + 1, 1, .slice B r.length D)]) ⟨(by unfold Sees; go_grown), (by simp [go_sem]), (by simp [go_sem]), (by simp [go_sem]), (by simp [go_sem]), trivial⟩ hb
    clear hb
    obtain ⟨sS, s0, s1, s2, s3, _⟩ := H1.out
    have e0 := (sS.cell (p := ⟨bp, op, none⟩) lbp).trans c0
    go_wp2_with fail
    refine (KD.out _).mono ?_
    rintro e w2 ⟨rfl, hb⟩
    have H2 := Lib.hid (H1.out.below hb)
    clear hb e0 s0 s1 s2 s3 sS H1 KD
    go_wp2_with fail
    go_loopw [5, 6] (fun s i wr => ∃ (j : Nat) (sx : ByteArray), j ≤ r.length ∧ s = .string sx ∧ i = .int .i64 j ∧ Hid (sx = ⟨(wtx p r j).toArray⟩) ∧ Hid (St w [(w.heap.size, 0, .int .i64 t), (w.heap.size, 1, .int .i64 a), (w.heap.size + 1, 0, .slice (some ⟨bp, op, none⟩) p.length C), (w.heap.size + 1, 1, .slice B r.length D)] wr)) (fun _ i _ => r.length - (intOf i).toNat)
    case atStart => exact ⟨0, sv, Nat.zero_le _, rfl, rfl, HSV, H2⟩
    case round =>
      obtain ⟨j, sx, hj, rfl, rfl, hsx, hH⟩ := hrel
      clear H2 HSV
      obtain ⟨sS, s0, s1, s2, s3, _⟩ := hH.out
      by_cases hjl : j < r.length
      · obtain ⟨br, or, rfl, hatr⟩ := hr (by rintro rfl; simp at hjl)
        have cr := hatr j hjl
        have lbr : br < w.heap.size := World.block_lt_of_cell? _ _ cr
        have hpr := HPR.out
        have cp := HAT.out (j + 1) (by omega)
        have er := (sS.cell (p := ⟨br, or + j, none⟩) lbr).trans cr
        have ep := (sS.cell (p := ⟨bp, op + (j + 1), none⟩) lbp).trans cp
        have r9 := HR9.out j hjl
        have p9 := HP9.out (j + 1) (by omega)
        have wl := HWL.out j hj
        obtain ⟨x, hx⟩ : ∃ x : Int, x = nth r j := ⟨_, rfl⟩
        obtain ⟨y, hy⟩ : ∃ y : Int, y = nth p (j + 1) := ⟨_, rfl⟩
        rw [← hx] at er r9
        rw [← hy] at ep p9
        have dx := dig1 r9
        have dy := dig1 p9
        obtain ⟨s1', hs1⟩ : ∃ s : ByteArray, s = ⟨(Lib.decDigits x.toNat).toArray⟩ := ⟨_, rfl⟩
        obtain ⟨s2', hs2⟩ : ∃ s : ByteArray, s = ⟨(Lib.decDigits y.toNat).toArray⟩ := ⟨_, rfl⟩
        obtain ⟨s3', hs3⟩ : ∃ s : ByteArray, s = ⟨([32, 97] ++ Lib.decDigits x.toNat).toArray⟩ := ⟨_, rfl⟩
        obtain ⟨s4', hs4⟩ : ∃ s : ByteArray, s = ⟨([32, 97] ++ Lib.decDigits x.toNat ++ [32]).toArray⟩ := ⟨_, rfl⟩
        obtain ⟨s5', hs5⟩ : ∃ s : ByteArray, s = ⟨([32, 97] ++ Lib.decDigits x.toNat ++ [32] ++ Lib.decDigits y.toNat).toArray⟩ := ⟨_, rfl⟩
        obtain ⟨s6', hs6⟩ : ∃ s : ByteArray, s = ⟨(wtx p r (j + 1)).toArray⟩ := ⟨_, rfl⟩
        have K2 : Hid (∀ W : World, Calls Tryd.prog 38 #[.int .i64 x] W fun e w' => e = .returned (.string s1') ∧ Below W.heap.size W w') := fun W => by rw [hs1]; exact decimal_one x r9.1 r9.2 W
        have K3 : Hid (∀ W : World, Calls Tryd.prog 38 #[.int .i64 y] W fun e w' => e = .returned (.string s2') ∧ Below W.heap.size W w') := fun W => by rw [hs2]; exact decimal_one y p9.1 p9.2 W
        have q1' : ∀ W : World, (Op.stringOp .add ⟨#[32, 97]⟩ s1').run Tryd.prog W = .ok (.string s3') W := fun W => by rw [hs1, hs3]; exact add_any [32, 97] _ (by simp only [List.length_cons, List.length_nil]; omega) W
        have q2' : ∀ W : World, (Op.stringOp .add s3' ⟨#[32]⟩).run Tryd.prog W = .ok (.string s4') W := fun W => by rw [hs3, hs4]; exact add_any _ [32] (by simp only [List.length_append, List.length_cons, List.length_nil]; omega) W
        have q3' : ∀ W : World, (Op.stringOp .add s4' s2').run Tryd.prog W = .ok (.string s5') W := fun W => by rw [hs4, hs2, hs5]; exact add_any _ _ (by simp only [List.length_append, List.length_cons, List.length_nil]; omega) W
        have q4' : ∀ W : World, (Op.stringOp .add sx s5').run Tryd.prog W = .ok (.string s6') W := fun W => by rw [hsx.out, hs5, hs6]; rw [wtx_succ, ← hx, ← hy]; exact add_any _ _ (by simp only [List.length_append, List.length_cons, List.length_nil]; omega) W
        have HS6 := Lib.hid hs6
        have wk : IntKind.i64.wrap ((j : Int) + 1) = (j : Int) + 1 := IntWalk.i64_in _ (by omega)
        have jt : ((j : Int) + 1).toNat = j + 1 := by omega
        have j1 : (j : Int) < (r.length : Int) := by omega
        have j2 : (j : Int) + 1 < (p.length : Int) := by omega
        have j3 : (0 : Int) ≤ (j : Int) + 1 := by omega
        have hX : Hid (St w ((br, or + j, .int .i64 x) :: (bp, op + (j + 1), .int .i64 y) :: [(w.heap.size, 0, .int .i64 t), (w.heap.size, 1, .int .i64 a), (w.heap.size + 1, 0, .slice (some ⟨bp, op, none⟩) p.length C), (w.heap.size + 1, 1, .slice (some ⟨br, or, none⟩) r.length D)]) wr) := ⟨sS, er, ep, hH.out.2⟩
        have JL := Lib.hid hjl
        clear hpr hx hy dx dy hs1 hs2 hs3 hs4 hs5 hs6 r9 p9 wl cr cp er ep hjl hsx hatr
        go_wp2_with fail
        refine wp_region_quietC w ((br, or + j, .int .i64 x) :: (bp, op + (j + 1), .int .i64 y) :: [(w.heap.size, 0, .int .i64 t), (w.heap.size, 1, .int .i64 a), (w.heap.size + 1, 0, .slice (some ⟨bp, op, none⟩) p.length C), (w.heap.size + 1, 1, .slice (some ⟨br, or, none⟩) r.length D)]) (by kernel_rfl) (by kernel_rfl) hX.out ?_
        repeat (first | go_big_quiet_skip | (go_big_quiet_want; apply Exists.intro; refine ⟨fun W hW => ?_, ?_⟩; focus (have hK := Lib.hid hW; obtain ⟨hs, hc⟩ := hW; simp only [Has, and_true] at hc; go_simp; (first | (go_at_call_of 38 (Value.int IntKind.i64 x); exact quietC_call hK.out (K2.out _)) | (go_at_call 38; exact quietC_call hK.out (K3.out _)) | rfl))) | (go_simp; go_big_quiet_on))
        refine wpQuiet_nil ?_
        intro w3 H3
        go_wp2_with fail
        go_roundw
        case rel => exact ⟨j + 1, s6', JL.out, rfl, by go_num, HS6, ⟨H3.1, H3.2.2.2⟩⟩
        case measure => have := JL.out; simp [intOf]; omega
      · obtain rfl : j = r.length := by omega
        go_wp2_with fail
        go_ret
        exact ⟨by rw [hsx.out]; rfl, sS⟩

set_option maxRecDepth 100000 in
set_option maxHeartbeats 1500000 in
theorem implWordText_any (t a : Int) (p r : List Int) (h0 : p.length + r.length ≤ 1048576) (A B : Option Addr) (C D : Nat) (w : World) (hl : Ints w p A) (hr : Ints w r B) :
    Calls Tryd.prog 16 #[.agg #[.int .i64 t, .int .i64 a], .agg #[.slice A p.length C, .slice B r.length D]] w fun e w' => e = .returned (.string ⟨(woT t a p r).toArray⟩) ∧ Below w.heap.size w w' := by
  obtain ⟨q1, hq1⟩ : ∃ q1 : Bool, q1 = validW t a p r := ⟨_, rfl⟩
  have K1 : Hid (∀ W : World, St w [(w.heap.size, 0, .int .i64 t), (w.heap.size, 1, .int .i64 a), (w.heap.size + 1, 0, .slice A p.length C), (w.heap.size + 1, 1, .slice B r.length D)] W → Calls Tryd.prog 40 #[.agg #[.int .i64 t, .int .i64 a], .agg #[.slice A p.length C, .slice B r.length D]] W fun e w' => e = .returned (.bool q1) ∧ Below W.heap.size W w') :=
    fun W h => by rw [hq1]; exact implValidWord_any t a p r h0 A B C D W (hl.sees h.1) (hr.sees h.1)
  cases q1
  · have HD : Hid (woT t a p r = []) := by show _ = _; unfold woT; rw [← hq1]; rfl
    rw [HD.out]
    clear hq1 HD
    go_enter Tryd.func16, Tryd.ntmps16
    go_wp2_with fail
    refine (K1.out _ ⟨(by unfold Sees; go_grown), (by simp [go_sem]), (by simp [go_sem]), (by simp [go_sem]), (by simp [go_sem]), trivial⟩).mono ?_
    rintro e w1 ⟨rfl, hb⟩
    have H1 : Hid (St w [(w.heap.size, 0, .int .i64 t), (w.heap.size, 1, .int .i64 a), (w.heap.size + 1, 0, .slice A p.length C), (w.heap.size + 1, 1, .slice B r.length D)] w1) := St.below (l := [(w.heap.size, 0, .int .i64 t), (w.heap.size, 1, .int .i64 a), (w.heap.size + 1, 0, .slice A p.length C), (w.heap.size + 1, 1, .slice B r.length D)]) ⟨(by unfold Sees; go_grown), (by simp [go_sem]), (by simp [go_sem]), (by simp [go_sem]), (by simp [go_sem]), trivial⟩ hb
    clear hb
    obtain ⟨sS, s0, s1, s2, s3, _⟩ := H1.out
    go_wp2_with fail
    go_ret
    exact ⟨rfl, sS⟩
  · obtain ⟨hr10, hpr, hp9, hr9⟩ := validW_parts hq1.symm
    have hwl := wtx_len hp9 hr9 hpr
    have HD : Hid (woT t a p r = wtx p r r.length) := by show _ = _; unfold woT; rw [← hq1]; rfl
    rw [HD.out]
    clear hq1 HD
    obtain ⟨bp, op, rfl, hat⟩ := hl (by rintro rfl; simp at hpr)
    have c0 : w.cell? ⟨bp, op, none⟩ = some (.int .i64 (nth p 0)) := hat 0 (by omega)
    have lbp : bp < w.heap.size := World.block_lt_of_cell? _ _ c0
    have n0 : (0 : Int) < (p.length : Int) := by omega
    have p90 := hp9 0 (by omega)
    have HPR := Lib.hid hpr; have HWL := Lib.hid hwl; have HP9 := Lib.hid hp9; have HR9 := Lib.hid hr9; have HAT := Lib.hid hat
    have HP90 := Lib.hid p90
    clear hpr hwl hp9 hr9 hat p90
    have KN : Hid (∀ (Bq : Nat) (W : World) (l s : List UInt8) (n : Int), 0 ≤ n ∧ n < 10 → l.length ≤ 1000 → s.length ≤ 2 → Bld Bq l W → Calls Tryd.prog 41 #[.pointer (some ⟨Bq, 0, none⟩), str s, .int .i64 n] W fun e w' => e = .returned (.tuple #[]) ∧ Wrote Bq (l ++ (s ++ Lib.decDigits n.toNat)) W w') :=
      fun Bq W l s n hn h1 h2 hB => writeNumber_any s n hn.1 (by omega) hB (by omega)
    have KN1 : Hid (∀ (Bq : Nat) (W : World), Bld Bq [] W → Calls Tryd.prog 41 #[.pointer (some ⟨Bq, 0, none⟩), .string ⟨#[]⟩, .int .i64 (nth p 0)] W fun e w' => e = .returned (.tuple #[]) ∧ Wrote Bq (wtx p r 0) W w') := fun Bq W hB => (KN.out Bq W [] [] (nth p 0) HP90.out (by simp) (by simp) hB)
    have KS : Hid (∀ (Bq : Nat) (W : World), Bld Bq (wtx p r r.length) W → Calls Tryd.prog 42 #[.pointer (some ⟨Bq, 0, none⟩)] W fun e w' => e = .returned (str (wtx p r r.length)) ∧ Below Bq W w') := fun Bq W hB => string_any hB
    go_enter Tryd.func16, Tryd.ntmps16
    go_wp2_with fail
    refine (K1.out _ ⟨(by unfold Sees; go_grown), (by simp [go_sem]), (by simp [go_sem]), (by simp [go_sem]), (by simp [go_sem]), trivial⟩).mono ?_
    rintro e w1 ⟨rfl, hb⟩
    have H1 : Hid (St w [(w.heap.size, 0, .int .i64 t), (w.heap.size, 1, .int .i64 a), (w.heap.size + 1, 0, .slice (some ⟨bp, op, none⟩) p.length C), (w.heap.size + 1, 1, .slice B r.length D)] w1) := St.below (l := [(w.heap.size, 0, .int .i64 t), (w.heap.size, 1, .int .i64 a), (w.heap.size + 1, 0, .slice (some ⟨bp, op, none⟩) p.length C), (w.heap.size + 1, 1, .slice B r.length D)]) ⟨(by unfold Sees; go_grown), (by simp [go_sem]), (by simp [go_sem]), (by simp [go_sem]), (by simp [go_sem]), trivial⟩ hb
    clear hb
    obtain ⟨sS, s0, s1, s2, s3, _⟩ := H1.out
    have e0 := (sS.cell (p := ⟨bp, op, none⟩) lbp).trans c0
    have hlow : Hid (w.heap.size + 2 ≤ w1.heap.size) := by
      have := World.block_lt_of_cell? _ _ s2
      show _ ≤ _
      exact this
    have z1 : w.heap.size < w1.heap.size := by have := hlow.out; omega
    have z2 : w.heap.size + 1 < w1.heap.size := by have := hlow.out; omega
    have z3 : bp < w1.heap.size := by omega
    go_wp2_with fail
    refine (KN1.out _ _ (Bld.fresh w1)).mono ?_
    rintro e w2 ⟨rfl, hw2⟩
    have HS2' : Hid (Below w1.heap.size w1 w2 ∧ Bld w1.heap.size (wtx p r 0) w2) := ⟨((Below.refl _ _).alloc (Nat.le_refl _) _).trans hw2.below, hw2.bld⟩
    clear hw2 s0 s1 s2 s3 e0 z1 z2 z3
    have HS2 := HS2'
    clear HS2'
    have H2 : Hid (∀ W, Below w1.heap.size w1 W → St w [(w.heap.size, 0, .int .i64 t), (w.heap.size, 1, .int .i64 a), (w.heap.size + 1, 0, .slice (some ⟨bp, op, none⟩) p.length C), (w.heap.size + 1, 1, .slice B r.length D)] W) := fun W hb => by
      obtain ⟨g0, g1, g2, g3, g4, _⟩ := H1.out
      have hl := hlow.out
      exact ⟨g0.below' hb (by omega), (hb.cell (p := ⟨w.heap.size, 0, none⟩) (by show w.heap.size < w1.heap.size; omega)).trans g1, (hb.cell (p := ⟨w.heap.size, 1, none⟩) (by show w.heap.size < w1.heap.size; omega)).trans g2, (hb.cell (p := ⟨w.heap.size + 1, 0, none⟩) (by show w.heap.size + 1 < w1.heap.size; omega)).trans g3, (hb.cell (p := ⟨w.heap.size + 1, 1, none⟩) (by show w.heap.size + 1 < w1.heap.size; omega)).trans g4, trivial⟩
    obtain ⟨u0, u1, u2, u3, u4, _⟩ := H2.out w2 HS2.out.1
    go_wp2_with fail
    clear u0 u1 u2 u3 u4
    go_loopw [20] (fun i wr => ∃ j : Nat, j ≤ r.length ∧ i = .int .i64 j ∧ Hid (Below w1.heap.size w1 wr ∧ Bld w1.heap.size (wtx p r j) wr)) (fun i _ => r.length - (intOf i).toNat)
    case atStart => exact ⟨0, Nat.zero_le _, rfl, HS2⟩
    case round =>
      obtain ⟨j, hj, rfl, hH⟩ := hrel
      clear HS2
      obtain ⟨u0, u1, u2, u3, u4, _⟩ := H2.out wr hH.out.1
      by_cases hjl : j < r.length
      · obtain ⟨br, or, rfl, hatr⟩ := hr (by rintro rfl; simp at hjl)
        have cr := hatr j hjl
        have lbr : br < w.heap.size := World.block_lt_of_cell? _ _ cr
        have hpr := HPR.out
        have cp := HAT.out (j + 1) (by omega)
        have er := (u0.cell (p := ⟨br, or + j, none⟩) lbr).trans cr
        have wl := HWL.out j hj
        have r9 := HR9.out j hjl
        have p9 := HP9.out (j + 1) (by omega)
        have d9 := dig1 r9
        have KN2 : Hid (∀ W : World, Bld w1.heap.size (wtx p r j) W → Calls Tryd.prog 41 #[.pointer (some ⟨w1.heap.size, 0, none⟩), .string ⟨#[32, 97]⟩, .int .i64 (nth r j)] W fun e w' => e = .returned (.tuple #[]) ∧ Wrote w1.heap.size (wtx p r j ++ ([32, 97] ++ Lib.decDigits (nth r j).toNat)) W w') := fun W hB => KN.out w1.heap.size W _ [32, 97] _ r9 (by omega) (by simp) hB
        have KN3 : Hid (∀ W : World, Bld w1.heap.size (wtx p r j ++ ([32, 97] ++ Lib.decDigits (nth r j).toNat)) W → Calls Tryd.prog 41 #[.pointer (some ⟨w1.heap.size, 0, none⟩), .string ⟨#[32]⟩, .int .i64 (nth p (j + 1))] W fun e w' => e = .returned (.tuple #[]) ∧ Wrote w1.heap.size (wtx p r (j + 1)) W w') := fun W hB => (KN.out w1.heap.size W _ [32] _ p9 (by simp only [List.length_append, List.length_cons, List.length_nil]; omega) (by simp) hB).mono fun e w' ⟨h1, h2⟩ => ⟨h1, h2.to (by show _ = wtx p r j ++ _; simp)⟩
        have wk : IntKind.i64.wrap ((j : Int) + 1) = (j : Int) + 1 := IntWalk.i64_in _ (by omega)
        have jt : ((j : Int) + 1).toNat = j + 1 := by omega
        have j1 : (j : Int) < (r.length : Int) := by omega
        have j2 : (j : Int) + 1 < (p.length : Int) := by omega
        have j3 : (0 : Int) ≤ (j : Int) + 1 := by omega
        have JL := Lib.hid hjl
        clear hpr wl r9 p9 d9 cr hatr hjl
        go_wp2_with fail
        refine (KN2.out _ hH.out.2).mono ?_
        rintro e w3 ⟨rfl, hw3⟩
        have HS3 : Hid (Below w1.heap.size w1 w3) := hH.out.1.trans hw3.below
        have HB3 := Lib.hid hw3.bld
        clear hw3 u0 u1 u2 u3 u4 er
        obtain ⟨u0, u1, u2, u3, u4, _⟩ := H2.out w3 HS3.out
        have ep := (u0.cell (p := ⟨bp, op + (j + 1), none⟩) lbp).trans cp
        go_wp2_with fail
        refine (KN3.out _ HB3.out).mono ?_
        rintro e w4 ⟨rfl, hw4⟩
        have HS4 : Hid (Below w1.heap.size w1 w4 ∧ Bld w1.heap.size (wtx p r (j + 1)) w4) := ⟨HS3.out.trans hw4.below, hw4.bld⟩
        clear hw4
        go_wp2_with fail
        go_roundw
        case rel => exact ⟨j + 1, JL.out, by go_num, HS4⟩
        case measure => have := JL.out; simp [intOf]; omega
      · obtain rfl : j = r.length := by omega
        go_wp2_with fail
        refine (KS.out _ _ hH.out.2).mono ?_
        rintro e w5 ⟨rfl, hb⟩
        have BF : Below w.heap.size w w5 := (H2.out wr hH.out.1).1.below' hb (by have := hlow.out; omega)
        go_wp2_with fail
        go_ret
        exact ⟨rfl, BF⟩
end Go.Proofs.YtnlkhlffdnkceaaDoor
