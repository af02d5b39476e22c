/- RenumberModel: contract of spec.l05Has. Contract of spec.l05Pick. Contracts of spec.l05Tests, spec.l05Ok, spec.ValidModel, spec.l05CostsOk, spec.ValidCosts. RenumberModel: contract of the model's. -/
import Derived.Test.YtmblgkpgfofceaaRnD
import Derived.Test.YtmblgkpgfofceaaRqe
import Derived.Test.YtmblgkpgfofceaaQuietC
import Derived.Test.YtmblgkpgfofceaaRsD
import Derived.Deep.RegionLaw
import Derived.Deep.RegionHeld3
import Derived.Deep.DrawnRows
import Derived.Deep.AppendLies
import Derived.Test.YtmblgkpgfofceaaVMD
namespace Go.Proofs.Ytmblgkpgfofceaa
open Go.RowKit
set_option linter.unusedVariables false

set_option maxHeartbeats 4000000 in
set_option maxRecDepth 100000 in
theorem l05Has_any (xs : List Int) (hm : xs.length ≤ 1048576) (n : Int) (A : Option Addr) (C : Nat) (w : World) (hl : Ints w xs A) :
    Calls Try.prog 98 #[.slice A xs.length C, .int .i64 n] w fun e w' => e = .returned (.bool (hasB xs n)) ∧ Below w.heap.size w w' := by
  have HL := Lib.hid hl; have HM := Lib.hid hm
  have hA0 : Hid (∀ i, i < 0 → nth xs i ≠ n) := fun i hi => absurd hi (Nat.not_lt_zero _)
  clear hl
  go_enter Try.func98, Try.ntmps98
  go_wp2_with fail
  go_loopw [5] (fun i wr => ∃ j : Nat, j ≤ xs.length ∧ i = .int .i64 j ∧ Hid (∀ i, i < j → nth xs i ≠ n) ∧ Hid (Sees w wr)) (fun i _ => xs.length - (intOf i).toNat)
  case atStart => exact ⟨0, Nat.zero_le _, rfl, hA0, Sees.refl w⟩
  case round =>
    obtain ⟨j, hj, rfl, hA, hb⟩ := hrel
    clear hA0
    by_cases hjl : j < xs.length
    · obtain ⟨b, o, rfl, hat⟩ := HL.out (by rintro rfl; simp at hjl)
      have c0 := kc hb.out (hat j hjl)
      have hjm := Lib.hid hjl
      have j0 : (0 : Int) ≤ (j : Int) := Int.natCast_nonneg _
      have j1 : (j : Int) < (xs.length : Int) := by omega
      have hmm := HM.out
      clear hjl hat
      by_cases hq : nth xs j = n
      · have HE := Lib.hid (has_at hjm.out hq)
        have tq : decide (nth xs j = n) = true := decide_eq_true hq
        have tb : (nth xs j == n) = true := by simpa using hq
        clear hq
        go_wp2_with fail
        go_ret
        exact ⟨ret_bool HE.out.symm, hb.out⟩
      · have HE : Hid (∀ i, i < j + 1 → nth xs i ≠ n) := fun i hi => by
          rcases Nat.lt_succ_iff_lt_or_eq.1 hi with h | rfl
          · exact hA.out i h
          · exact hq
        have tq : decide (nth xs j = n) = false := decide_eq_false hq
        have tb : (nth xs j == n) = false := by simpa using hq
        clear hq
        go_wp2_with fail
        go_roundw
        case rel => exact ⟨j + 1, by have := hjm.out; omega, by go_num, HE, hb⟩
        case measure => (have := hjm.out; simp [intOf]; try omega)
    · obtain rfl : j = xs.length := by omega
      have HE := Lib.hid (has_no hA.out)
      clear hjl
      go_wp2_with fail
      go_ret
      exact ⟨ret_bool HE.out.symm, hb.out⟩
end Go.Proofs.Ytmblgkpgfofceaa

namespace Go.Proofs.Ytmblgkpgfofceaa
open Go.RowKit
set_option linter.unusedVariables false

/-- A row of Booleans that a call makes by append, in blocks from lo on. -/
def OwnB (w : World) (lo : Nat) (v : Value) (xs : List Bool) : Prop := w.ownsRow lo 4 1 v xs.length (xs.map Value.bool)
theorem OwnB.made (w : World) : OwnB (w.alloc (.cells #[] 4)) w.heap.size (.slice (some ⟨w.heap.size, 0, none⟩) 0 0) [] := World.ownsRow_made w #[] 0 (Nat.le_refl _) (Nat.zero_le _) rfl
theorem OwnB.keep {w w' : World} {lo : Nat} {v : Value} {xs : List Bool} (h : OwnB w lo v xs) (hb : Below w.heap.size w w') : OwnB w' lo v xs := own_keep h fun k hk => hb.block k (World.ownsRow.lt h k hk).2
theorem OwnB.done {w : World} {lo : Nat} {v : Value} {xs : List Bool} (h : OwnB w lo v xs) : ∃ A C, v = .slice A xs.length C ∧ BoolsF w xs A (rng lo w.heap.size) := by
  have hlt := World.ownsRow.lt h
  obtain ⟨h1, h2⟩ := h
  rcases h2 with ⟨hv, h0⟩ | ⟨g, cap, cur, rfl, hb, hg, hn, _, hs, ht⟩
  · exact ⟨none, 0, by rw [h0]; exact hv, Or.inl (List.eq_nil_of_length_eq_zero h0)⟩
  · refine ⟨some ⟨g, 0, none⟩, cap, rfl, Or.inr ⟨g, rfl, hlt g rfl, fun i => Fo.unfrozen_of_block hg i, fun i x hx => ?_⟩⟩
    obtain ⟨hl, hxe⟩ := List.getElem?_eq_some_iff.1 hx
    rw [Fo.cell_of_block hg, ← Array.getElem?_toList]
    have h5 : (xs.map Value.bool)[i]? = some (.bool x) := by rw [List.getElem?_map, hx]; rfl
    rw [← ht, List.getElem?_take, if_pos (by omega)] at h5
    exact h5
theorem OwnB.push {w' : World} {lo : Nat} {v' : Value} {xs : List Bool} {q : Bool} (ho : w'.ownsRow lo 4 1 v' (xs.length + 1) (xs.map Value.bool ++ [.bool q])) : OwnB w' lo v' (xs ++ [q]) := by
  unfold OwnB
  rw [List.length_append, List.map_append]
  exact ho
theorem range_map_step {T : Nat → Bool} {x : Nat} : (List.range (x + 1)).map T = (List.range x).map T ++ [T x] := by rw [List.range_succ, List.map_append]; rfl
theorem rsT_row {t : Nat} {ord : List Int} {ac : List (List Bool)} {j : Nat} (h : j < (rsT t ord ac).length) : (rsT t ord ac)[j] = (List.range ord.length).map fun x => (ac.getD j []).getD (nth ord x).toNat false := tab_row _ _ _ h
theorem rsR_row {ord : List Int} {rows : List (List Bool)} {j : Nat} (h : j < (rsR ord rows).length) : (rsR ord rows)[j] = (List.range ord.length).map fun y => (rows.getD (nth ord j).toNat []).getD (nth ord y).toNat false := tab_row _ _ _ h
theorem rsT_step {t : Nat} {ord : List Int} {ac : List (List Bool)} {j : Nat} (h : j < t) : (rsT t ord ac).take (j + 1) = (rsT t ord ac).take j ++ [(List.range ord.length).map fun x => (ac.getD j []).getD (nth ord x).toNat false] := by
  have h1 : j < (rsT t ord ac).length := by rw [rsT_len]; exact h
  rw [List.take_succ_eq_append_getElem h1, rsT_row h1]
theorem rsR_step {ord : List Int} {rows : List (List Bool)} {j : Nat} (h : j < ord.length) : (rsR ord rows).take (j + 1) = (rsR ord rows).take j ++ [(List.range ord.length).map fun y => (rows.getD (nth ord j).toNat []).getD (nth ord y).toNat false] := by
  have h1 : j < (rsR ord rows).length := by rw [rsR_len]; exact h
  rw [List.take_succ_eq_append_getElem h1, rsR_row h1]
theorem mret5 {t a n k : Nat} {w W : World} {b lo1 hi1 : Nat} {ts : List (List Bool)} {acts : List (List (List Bool))} {A1 A2 : Option Addr} {C1 C2 : Nat} (h1 : BBF W ts A1 (rng lo1 hi1)) (h2 : BBBF W acts A2 (rng hi1 W.heap.size)) (hw : Below w.heap.size w W) (hn : w.heap.size ≤ b) (hb : b < lo1) (hl : lo1 ≤ hi1) (hz : hi1 ≤ W.heap.size) (ht : ts.length = t) (ha : acts.length = k) (v0 v1 v2 v3 v4 : Value) :
    MRet t a n ts acts w (.returned (.agg #[.int .i64 (t : Int), .int .i64 (a : Int), .int .i64 (n : Int), .slice A1 t C1, .slice A2 k C2])) (((((W.setCell ⟨b, 0, none⟩ v0).setCell ⟨b, 1, none⟩ v1).setCell ⟨b, 2, none⟩ v2).setCell ⟨b, 3, none⟩ v3).setCell ⟨b, 4, none⟩ v4) := by
  subst ha
  have zs : (((((W.setCell ⟨b, 0, none⟩ v0).setCell ⟨b, 1, none⟩ v1).setCell ⟨b, 2, none⟩ v2).setCell ⟨b, 3, none⟩ v3).setCell ⟨b, 4, none⟩ v4).heap.size = W.heap.size := by simp
  refine ⟨A1, A2, C1, C2, hi1, by rw [ht], by omega, by rw [zs]; omega, bbF_ok.mono (bbF_ok.keep h1 fun k hk => five_keep W b k _ _ _ _ _ (by have := hk.1; omega)) (fun k hk => ⟨by have := hk.1; omega, hk.2⟩), ?_, five_below hw hn _ _ _ _ _⟩
  rw [zs]
  exact bbbF_ok.keep h2 fun k hk => five_keep W b k _ _ _ _ _ (by have := hk.1; omega)
theorem elB_here : El1 124 4 (.bool false) 1 := Try.elB

set_option maxHeartbeats 20000000 in
set_option maxRecDepth 100000 in
theorem l05Pick_any (t a p : Nat) (ord : List Int) (ac : List (List Bool)) (nx : List (List (List Bool))) (h : RsOk t a p ord ac nx) (A B O : Option Addr) (C D OC bm : Nat) (w : World) (hA : BB 0 w ac A) (hB : BBB 0 w nx B) (hOr : Ints w ord O)
    (g0 : w.cell? ⟨bm, 0, none⟩ = some (.int .i64 (t : Int))) (g1 : w.cell? ⟨bm, 1, none⟩ = some (.int .i64 (a : Int))) (g3 : w.cell? ⟨bm, 3, none⟩ = some (.slice A ac.length C)) (g4 : w.cell? ⟨bm, 4, none⟩ = some (.slice B nx.length D)) :
    Calls Try.prog 75 #[.pointer (some ⟨bm, 0, none⟩), .slice O ord.length OC] w (MRet t a ord.length (rsT t ord ac) (rsA ord nx) w) := by
  obtain ⟨ht3, ha4, hp8, hn8, hal, hnl, har, hnr, hob⟩ := h
  have hkx : ∀ x, x < ord.length → nth ord x = (((nth ord x).toNat : Nat) : Int) ∧ (nth ord x).toNat < p := fun x hx => by have := hob x hx; omega
  obtain ⟨n, hn⟩ : ∃ n, n = ord.length := ⟨_, rfl⟩
  have HN8 := Lib.hid hn8; have HKX := Lib.hid hkx; have HA := Lib.hid hA; have HB := Lib.hid hB; have HOR := Lib.hid hOr
  have HAR := Lib.hid har; have HNR := Lib.hid hnr; have HAL := Lib.hid hal; have HNL := Lib.hid hnl; have HP8 := Lib.hid hp8; have HT3 := Lib.hid ht3; have HA4 := Lib.hid ha4
  have HG := Lib.hid (And.intro g0 (And.intro g1 (And.intro g3 g4)))
  have lbm : bm < w.heap.size := World.block_lt_of_cell? _ _ g0
  obtain ⟨w1, hw1⟩ : ∃ w1, w1 = w.alloc (.cells #[.int .i64 0, .int .i64 0, .int .i64 0, .slice none 0 0, .slice none 0 0] 63) := ⟨_, rfl⟩
  have hr1 : w1.heap[w.heap.size]? = some (.cells #[.int .i64 0, .int .i64 0, .int .i64 0, .slice none 0 0, .slice none 0 0] 63 (0, 0)) := by rw [hw1]; exact heap_new _ _ _ rfl
  have HR1 := Lib.hid hr1
  have S1 : Sees w w1 := by rw [hw1]; exact (Sees.refl w).alloc _
  have HS1 := Lib.hid S1
  have z1 : w1.heap.size = w.heap.size + 1 := by rw [hw1]; simp
  obtain ⟨w2, hw2⟩ : ∃ w2, w2 = w1.alloc (.cells #[.int .i64 (t : Int), .int .i64 (a : Int), .int .i64 (n : Int), .slice none 0 0, .slice none 0 0] 63) := ⟨_, rfl⟩
  have hb2 : Below w1.heap.size w1 w2 := by rw [hw2]; exact (Below.refl _ _).alloc (Nat.le_refl _) _
  have HB2_ := Lib.hid hb2
  have hz2 : w1.heap.size < w2.heap.size := by rw [hw2]; simp
  have HZ2 := Lib.hid hz2
  have H2 : Hid (BA 124 BoolsF List.length (fun v => #[.int .i64 (t : Int), .int .i64 (a : Int), .int .i64 (n : Int), v, .slice none 0 0]) w1.heap.size w2 ((rsT t ord ac).take 0) (.slice none 0 0) w2) := ⟨by rw [hw2]; exact heap_new _ _ _ rfl, Acc.start, ButF.refl _ _, hz2⟩
  have HN := Lib.hid hn
  have k0 := ka (.cells #[.int .i64 0, .int .i64 0, .int .i64 0, .slice none 0 0, .slice none 0 0] 63) g0
  have k1 := ka (.cells #[.int .i64 0, .int .i64 0, .int .i64 0, .slice none 0 0, .slice none 0 0] 63) g1
  clear hA hB hOr har hnr hal hnl ha4 hp8 hkx hob g0 g1 g3 g4 hb2 hz2 hr1
  go_enter Try.func75, Try.ntmps75
  go_wp2_with fail
  rw [← hw1, ← hn, ← hw2, ← z1]
  rw [hn]
  have HZ1 := Lib.hid z1
  clear hw1 hw2 k0 k1 S1 z1 hn
  go_loopw [6] (fun i wr => ∃ (j : Nat) (v : Value), j ≤ t ∧ i = .int .i64 j ∧ Hid (BA 124 BoolsF List.length (fun v => #[.int .i64 (t : Int), .int .i64 (a : Int), .int .i64 (n : Int), v, .slice none 0 0]) w1.heap.size w2 ((rsT t ord ac).take j) v wr)) (fun i _ => t - (intOf i).toNat)
  case atStart => exact ⟨0, _, Nat.zero_le _, rfl, H2.out⟩
  case round =>
    obtain ⟨j, v, hj, rfl, hS⟩ := hrel
    clear H2
    obtain ⟨w3, rfl⟩ : ∃ w3, w3 = wr := ⟨_, rfl⟩
    have B3 := Lib.hid (hS.out.but.old HB2_.out)
    have S3 : Sees w w3 := HS1.out.below B3.out
    have HS3 := Lib.hid S3
    have c3 := kc S3 HG.out.2.2.1
    rw [HAL.out] at c3
    by_cases hjt : j < t
    · have JL := Lib.hid hjt
      have hja : j < ac.length := by rw [HAL.out]; exact hjt
      obtain ⟨bA, oA, _, hAe, hat⟩ := HA.out (by rintro rfl; simp at hja)
      obtain ⟨R, DR, cA, qA⟩ := hat j ac[j] (List.getElem?_eq_getElem hja)
      have hrl : ac[j].length = p := HAR.out ac[j] (List.getElem_mem hja)
      obtain ⟨row, hrow⟩ : ∃ row, row = ac[j] := ⟨_, rfl⟩
      obtain ⟨TT, hTT⟩ : ∃ TT : Nat → Bool, TT = fun x => (ac.getD j []).getD (nth ord x).toNat false := ⟨_, rfl⟩
      have hTr : ∀ (x k : Nat) (hx : nth ord x = (k : Int)) (hk : k < row.length), TT x = row[k] := fun x k hx hk => by subst hrow; rw [hTT]; dsimp only; rw [hx, Int.toNat_natCast, getD_bb hja hk]
      have hstep := rsT_step (ord := ord) (ac := ac) hjt
      rw [← hTT] at hstep
      rw [← hrow] at cA qA hrl
      have HST := Lib.hid hstep; have HTR := Lib.hid hTr; have HRL := Lib.hid hrl; have QA := Lib.hid qA; have CA := Lib.hid cA
      have j0 : (0 : Int) ≤ (j : Int) := Int.natCast_nonneg _
      have j1 : (j : Int) < (t : Int) := by omega
      have j1' : (j : Int) < (ac.length : Int) := by omega
      have j4 : j ≤ 1048576 := by have := HT3.out; omega
      clear hstep hTr hTT hrow hrl hja hat qA cA S3 hjt
      subst hAe
      go_wp2_with fail
      clear c3
      go_loopw [7, 8] (fun sv i wr => ∃ (x : Nat) (rv : Value), x ≤ ord.length ∧ i = .int .i64 x ∧ rv = sv ∧ Hid (OwnB wr w3.heap.size rv ((List.range x).map TT)) ∧ Hid (Below w3.heap.size w3 wr)) (fun _ i _ => ord.length - (intOf i).toNat)
      case atStart => exact ⟨0, _, Nat.zero_le _, rfl, rfl, OwnB.made w3, (Below.refl _ _).alloc (Nat.le_refl _) _⟩
      case round =>
        obtain ⟨x, rv, hx, rfl, rfl, hO, hBw⟩ := hrel
        obtain ⟨wq, rfl⟩ : ∃ wq, wq = wr := ⟨_, rfl⟩
        by_cases hxn : x < ord.length
        · obtain ⟨k, hk⟩ : ∃ k, k = (nth ord x).toNat := ⟨_, rfl⟩
          obtain ⟨hk1, hk2⟩ := HKX.out x hxn
          rw [← hk] at hk1 hk2
          have hkr : k < row.length := by rw [HRL.out]; exact hk2
          obtain ⟨y2, z2, _, hRe, hat2⟩ := QA.out (by rintro rfl; simp at hkr)
          obtain ⟨q, hq⟩ : ∃ q, q = row[k] := ⟨_, rfl⟩
          have d0 := hat2 k row[k] (List.getElem?_eq_getElem hkr)
          rw [← hq] at d0
          have HTQ : Hid (TT x = q) := by show _ = _; rw [hq]; exact HTR.out x k hk1 hkr
          obtain ⟨yo, zo, hOe, hato⟩ := HOR.out (by rintro rfl; simp at hxn)
          have co := hato x hxn
          rw [hk1] at co
          subst hRe hOe
          have HL : Hid (St w3 [(bm, 3, .slice (some ⟨bA, oA, none⟩) ac.length C), (bA, oA + j, .slice (some ⟨y2, z2, none⟩) row.length DR), (yo, zo + x, .int .i64 (k : Int)), (y2, z2 + k, .bool q)] w3) := ⟨Sees.refl _, kc HS3.out HG.out.2.2.1, kc HS3.out CA.out, kc HS3.out co, kc HS3.out d0, trivial⟩
          have x0 : (0 : Int) ≤ (x : Int) := Int.natCast_nonneg _
          have x1 : (x : Int) < (ord.length : Int) := by omega
          have q0 : (0 : Int) ≤ (k : Int) := Int.natCast_nonneg _
          have q1 : (k : Int) < (row.length : Int) := by omega
          clear hk hk1 hk2 hkr hat2 hq d0 hato co
          have XL_ := Lib.hid hxn
          clear hxn
          go_wp2_with fail
          refine wp_region_held_drew (S := fun w' => St w3 [(bm, 3, .slice (some ⟨bA, oA, none⟩) ac.length C), (bA, oA + j, .slice (some ⟨y2, z2, none⟩) row.length DR), (yo, zo + x, .int .i64 (k : Int)), (y2, z2 + k, .bool q)] w') (by kernel_rfl) (St.below HL.out (hBw.out.trans (Below.refl _ _)) : St w3 [(bm, 3, .slice (some ⟨bA, oA, none⟩) ac.length C), (bA, oA + j, .slice (some ⟨y2, z2, none⟩) row.length DR), (yo, zo + x, .int .i64 (k : Int)), (y2, z2 + k, .bool q)] wq).drew (fun HS => ?_)
          obtain ⟨w20, ew20⟩ : ∃ wn, wn = wq.drew := ⟨_, rfl⟩
          have hO2 : OwnB w20 w3.heap.size rv ((List.range x).map TT) := by rw [ew20]; exact hO.out
          have hB2 : Below w3.heap.size w3 w20 := by rw [ew20]; exact hBw.out.drew
          have HO2 := Lib.hid hO2; have HB2 := Lib.hid hB2
          rw [← ew20] at HS ⊢
          clear ew20 hO hBw hO2 hB2
          refine wpAnyH_take (i := 0) (oi := { dst := some 37, op := Op.move (Operand.tmp 7), type := 124, pos := "l05_costs.go:106", after := #[], guard := none }) (v := rv) rfl (by kernel_rfl) (by kernel_rfl) (by kernel_rfl) (fun _ _ _ h => h) (Or.inl ⟨rfl, fun W hW => by (obtain ⟨_, y0_, y1_, y2_, y3_, _⟩ := hW; go_simp; try rfl)⟩) HS ?_
          try simp only [Act.put, List.setIfInBounds_toArray, List.set_cons_zero, List.set_cons_succ]
          refine wpAnyH_take (i := 1) (oi := { dst := some 38, op := Op.move (Operand.tmp 0), type := 111, pos := "l05_costs.go:106", after := #[], guard := none }) (v := .pointer (some ⟨bm, 0, none⟩)) rfl (by kernel_rfl) (by kernel_rfl) (by kernel_rfl) (fun _ _ _ h => h) (Or.inl ⟨rfl, fun W hW => by (obtain ⟨_, y0_, y1_, y2_, y3_, _⟩ := hW; go_simp; try rfl)⟩) HS ?_
          try simp only [Act.put, List.setIfInBounds_toArray, List.set_cons_zero, List.set_cons_succ]
          refine wpAnyH_take (i := 2) (oi := { dst := some 39, op := Op.nilCheck (Operand.tmp 38), type := 0, pos := "l05_costs.go:106", after := #[{ on := 1, ground := Ground.data }], guard := none }) (v := .pointer (some ⟨bm, 0, none⟩)) rfl (by kernel_rfl) (by kernel_rfl) (by kernel_rfl) (fun _ _ _ h => h) (Or.inl ⟨rfl, fun W hW => by (obtain ⟨_, y0_, y1_, y2_, y3_, _⟩ := hW; go_simp; try rfl)⟩) HS ?_
          try simp only [Act.put, List.setIfInBounds_toArray, List.set_cons_zero, List.set_cons_succ]
          refine wpAnyH_take (i := 3) (oi := { dst := some 40, op := Op.fieldAddr 63 (Operand.tmp 39) 2, type := 0, pos := "l05_costs.go:106", after := #[{ on := 2, ground := Ground.data }], guard := none }) (v := .pointer (some ⟨bm, 3, none⟩)) rfl (by kernel_rfl) (by kernel_rfl) (by kernel_rfl) (fun _ _ _ h => h) (Or.inl ⟨rfl, fun W hW => by (obtain ⟨_, y0_, y1_, y2_, y3_, _⟩ := hW; go_simp; try rfl)⟩) HS ?_
          try simp only [Act.put, List.setIfInBounds_toArray, List.set_cons_zero, List.set_cons_succ]
          refine wpAnyH_take (i := 4) (oi := { dst := some 41, op := Op.load 57 (Operand.tmp 40), type := 57, pos := "l05_costs.go:106", after := #[{ on := 3, ground := Ground.data }], guard := none }) (v := .slice (some ⟨bA, oA, none⟩) ac.length C) rfl (by kernel_rfl) (by kernel_rfl) (by kernel_rfl) (fun _ _ _ h => h) (Or.inl ⟨rfl, fun W hW => by (obtain ⟨_, y0_, y1_, y2_, y3_, _⟩ := hW; go_simp; try rfl)⟩) HS ?_
          try simp only [Act.put, List.setIfInBounds_toArray, List.set_cons_zero, List.set_cons_succ]
          refine wpAnyH_take (i := 5) (oi := { dst := some 42, op := Op.move (Operand.tmp 6), type := 3, pos := "l05_costs.go:106", after := #[], guard := none }) (v := .int .i64 (j : Int)) rfl (by kernel_rfl) (by kernel_rfl) (by kernel_rfl) (fun _ _ _ h => h) (Or.inl ⟨rfl, fun W hW => by (obtain ⟨_, y0_, y1_, y2_, y3_, _⟩ := hW; go_simp; try rfl)⟩) HS ?_
          try simp only [Act.put, List.setIfInBounds_toArray, List.set_cons_zero, List.set_cons_succ]
          refine wpAnyH_take (i := 6) (oi := { dst := some 43, op := Op.indexAddr 57 (Operand.tmp 41) (Operand.tmp 42), type := 0, pos := "l05_costs.go:106", after := #[{ on := 4, ground := Ground.data }, { on := 5, ground := Ground.data }], guard := none }) (v := .pointer (some ⟨bA, oA + j, none⟩)) rfl (by kernel_rfl) (by kernel_rfl) (by kernel_rfl) (fun _ _ _ h => h) (Or.inl ⟨rfl, fun W hW => by (obtain ⟨_, y0_, y1_, y2_, y3_, _⟩ := hW; go_simp; try rfl)⟩) HS ?_
          try simp only [Act.put, List.setIfInBounds_toArray, List.set_cons_zero, List.set_cons_succ]
          refine wpAnyH_take (i := 7) (oi := { dst := some 44, op := Op.load 124 (Operand.tmp 43), type := 124, pos := "l05_costs.go:106", after := #[{ on := 6, ground := Ground.data }], guard := none }) (v := .slice (some ⟨y2, z2, none⟩) row.length DR) rfl (by kernel_rfl) (by kernel_rfl) (by kernel_rfl) (fun _ _ _ h => h) (Or.inl ⟨rfl, fun W hW => by (obtain ⟨_, y0_, y1_, y2_, y3_, _⟩ := hW; go_simp; try rfl)⟩) HS ?_
          try simp only [Act.put, List.setIfInBounds_toArray, List.set_cons_zero, List.set_cons_succ]
          refine wpAnyH_take (i := 8) (oi := { dst := some 45, op := Op.move (Operand.tmp 1), type := 26, pos := "l05_costs.go:106", after := #[], guard := none }) (v := .slice (some ⟨yo, zo, none⟩) ord.length OC) rfl (by kernel_rfl) (by kernel_rfl) (by kernel_rfl) (fun _ _ _ h => h) (Or.inl ⟨rfl, fun W hW => by (obtain ⟨_, y0_, y1_, y2_, y3_, _⟩ := hW; go_simp; try rfl)⟩) HS ?_
          try simp only [Act.put, List.setIfInBounds_toArray, List.set_cons_zero, List.set_cons_succ]
          refine wpAnyH_take (i := 9) (oi := { dst := some 46, op := Op.move (Operand.tmp 8), type := 3, pos := "l05_costs.go:106", after := #[], guard := none }) (v := .int .i64 (x : Int)) rfl (by kernel_rfl) (by kernel_rfl) (by kernel_rfl) (fun _ _ _ h => h) (Or.inl ⟨rfl, fun W hW => by (obtain ⟨_, y0_, y1_, y2_, y3_, _⟩ := hW; go_simp; try rfl)⟩) HS ?_
          try simp only [Act.put, List.setIfInBounds_toArray, List.set_cons_zero, List.set_cons_succ]
          refine wpAnyH_take (i := 10) (oi := { dst := some 47, op := Op.indexAddr 26 (Operand.tmp 45) (Operand.tmp 46), type := 0, pos := "l05_costs.go:106", after := #[{ on := 8, ground := Ground.data }, { on := 9, ground := Ground.data }], guard := none }) (v := .pointer (some ⟨yo, zo + x, none⟩)) rfl (by kernel_rfl) (by kernel_rfl) (by kernel_rfl) (fun _ _ _ h => h) (Or.inl ⟨rfl, fun W hW => by (obtain ⟨_, y0_, y1_, y2_, y3_, _⟩ := hW; go_simp; try rfl)⟩) HS ?_
          try simp only [Act.put, List.setIfInBounds_toArray, List.set_cons_zero, List.set_cons_succ]
          refine wpAnyH_take (i := 11) (oi := { dst := some 48, op := Op.load 2 (Operand.tmp 47), type := 2, pos := "l05_costs.go:106", after := #[{ on := 10, ground := Ground.data }], guard := none }) (v := .int .i64 (k : Int)) rfl (by kernel_rfl) (by kernel_rfl) (by kernel_rfl) (fun _ _ _ h => h) (Or.inl ⟨rfl, fun W hW => by (obtain ⟨_, y0_, y1_, y2_, y3_, _⟩ := hW; go_simp; try rfl)⟩) HS ?_
          try simp only [Act.put, List.setIfInBounds_toArray, List.set_cons_zero, List.set_cons_succ]
          refine wpAnyH_take (i := 12) (oi := { dst := some 49, op := Op.indexAddr 124 (Operand.tmp 44) (Operand.tmp 48), type := 0, pos := "l05_costs.go:106", after := #[{ on := 7, ground := Ground.data }, { on := 11, ground := Ground.data }], guard := none }) (v := .pointer (some ⟨y2, z2 + k, none⟩)) rfl (by kernel_rfl) (by kernel_rfl) (by kernel_rfl) (fun _ _ _ h => h) (Or.inl ⟨rfl, fun W hW => by (obtain ⟨_, y0_, y1_, y2_, y3_, _⟩ := hW; go_simp; try rfl)⟩) HS ?_
          try simp only [Act.put, List.setIfInBounds_toArray, List.set_cons_zero, List.set_cons_succ]
          refine wpAnyH_take (i := 13) (oi := { dst := some 50, op := Op.load 4 (Operand.tmp 49), type := 4, pos := "l05_costs.go:106", after := #[{ on := 12, ground := Ground.data }], guard := none }) (v := .bool q) rfl (by kernel_rfl) (by kernel_rfl) (by kernel_rfl) (fun _ _ _ h => h) (Or.inl ⟨rfl, fun W hW => by (obtain ⟨_, y0_, y1_, y2_, y3_, _⟩ := hW; go_simp; try rfl)⟩) HS ?_
          try simp only [Act.put, List.setIfInBounds_toArray, List.set_cons_zero, List.set_cons_succ]
          refine wpAnyH_ready (rs := [14]) (by kernel_rfl) (by simp) ?_
          refine AllReadyH.cons (o := { dst := some 51, op := Op.buildSlice 124 1 #[(0, Operand.tmp 50)], type := 124, pos := "l05_costs.go:106", after := #[{ on := 13, ground := Ground.data }], guard := none }) rfl (fun K hK => ?_) AllReadyH.nil
          go_simp
          obtain ⟨wn, ewn⟩ : ∃ wn, wn = w20.alloc (.cells #[.bool q] 4) := ⟨_, rfl⟩
          obtain ⟨sb, esb⟩ : ∃ s, s = w20.heap.size := ⟨_, rfl⟩
          rw [← ewn, ← esb]
          have hcb : wn.cell? ⟨sb, 0, none⟩ = some (.bool q) := by rw [ewn, esb]; simp [go_sem]
          have hO3 : OwnB wn w3.heap.size rv ((List.range x).map TT) := by rw [ewn]; exact HO2.out.keep ((Below.refl _ _).alloc (Nat.le_refl _) _)
          have hB3 : Below w3.heap.size w3 wn := by rw [ewn]; exact HB2.out.alloc HB2.out.size _
          have HS' : St w3 [(bm, 3, .slice (some ⟨bA, oA, none⟩) ac.length C), (bA, oA + j, .slice (some ⟨y2, z2, none⟩) row.length DR), (yo, zo + x, .int .i64 (k : Int)), (y2, z2 + k, .bool q)] wn := St.below HL.out hB3
          have HO3 := Lib.hid hO3; have HB3 := Lib.hid hB3; have HCB := Lib.hid hcb
          clear HS HO2 HB2 hO3 hB3 hcb ewn esb
          have HS := HS'; clear HS'
          refine hK.out _ _ HS (fun _ => ?_)
          clear hK K
          try simp only [Act.put, List.setIfInBounds_toArray, List.set_cons_zero, List.set_cons_succ]
          refine wpAnyH_ready (rs := [15]) (by kernel_rfl) (by simp) ?_
          refine AllReadyH.cons (o := { dst := some 52, op := Op.call { callee := Callee.builtin Builtin.append, args := #[Operand.tmp 37, Operand.tmp 51], argTypes := #[124, 124] }, type := 124, pos := "l05_costs.go:106", after := #[{ on := 0, ground := Ground.data }, { on := 14, ground := Ground.data }], guard := none }) rfl (fun K hK => ?_) AllReadyH.nil
          refine step_one elB_here wn (by rfl) _ _ (by rfl) w3.heap.size ((List.range x).map TT).length sb rv (.bool q) _ (by rfl) (by rfl) HO3.out HCB.out rfl (by have := XL_.out; have := HN8.out; simp; omega) HB3.out.size ?_
          intro v' w' ho hg hat
          have HO4 : Hid (OwnB w' w3.heap.size v' ((List.range (x + 1)).map TT)) := by show OwnB _ _ _ _; rw [range_map_step, HTQ.out]; exact OwnB.push ho
          have hB4 : Below w3.heap.size w3 w' := HB3.out.grown hg HB3.out.size (fun k hk => (World.ownsRow.lt HO3.out k hk).1)
          have HB4 := Lib.hid hB4
          have HS' : St w3 [(bm, 3, .slice (some ⟨bA, oA, none⟩) ac.length C), (bA, oA + j, .slice (some ⟨y2, z2, none⟩) row.length DR), (yo, zo + x, .int .i64 (k : Int)), (y2, z2 + k, .bool q)] w' := St.below HL.out hB4
          clear HS HO3 HB3 HCB ho hg hat hB4
          have HS := HS'; clear HS'
          refine hK.out _ _ HS (fun _ => ?_)
          clear hK K
          try simp only [Act.put, List.setIfInBounds_toArray, List.set_cons_zero, List.set_cons_succ]
          refine wpAnyH_take (i := 16) (oi := { dst := some 7, op := Op.assign (Operand.tmp 52), type := 124, pos := "l05_costs.go:106", after := #[{ on := 15, ground := Ground.data }, { on := 15, ground := Ground.chain }, { on := 0, ground := Ground.phase }, { on := 1, ground := Ground.phase }, { on := 2, ground := Ground.phase }, { on := 3, ground := Ground.phase }, { on := 4, ground := Ground.phase }, { on := 5, ground := Ground.phase }, { on := 6, ground := Ground.phase }, { on := 7, ground := Ground.phase }, { on := 8, ground := Ground.phase }, { on := 9, ground := Ground.phase }, { on := 10, ground := Ground.phase }, { on := 11, ground := Ground.phase }, { on := 12, ground := Ground.phase }, { on := 13, ground := Ground.phase }, { on := 14, ground := Ground.phase }, { on := 15, ground := Ground.phase }], guard := none }) (v := v') rfl (by kernel_rfl) (by kernel_rfl) (by kernel_rfl) (fun _ _ _ h => h) (Or.inl ⟨rfl, fun W hW => by (obtain ⟨_, y0_, y1_, y2_, y3_, _⟩ := hW; go_simp; try rfl)⟩) HS ?_
          try simp only [Act.put, List.setIfInBounds_toArray, List.set_cons_zero, List.set_cons_succ]
          refine wpAnyH_done (by kernel_rfl) ?_ _
          clear HS
          go_wp2_with fail
          go_roundw
          case rel => exact ⟨x + 1, v', XL_.out, by go_num, rfl, HO4.out, HB4.out⟩
          case measure => have := XL_.out; simp [intOf]; omega
        · have hex : x = ord.length := by omega
          clear hxn hx
          rw [hex] at hO
          obtain ⟨A2, C2, hv2, hbools⟩ := hO.out.done
          simp only [List.length_map, List.length_range] at hv2
          subst hv2
          have hsa := hBw.out
          have hU := hS.out.grow boolsF_ok hsa
          obtain ⟨vals, hvl, hown, hpp⟩ := Acc.push boolsF_ok hS.out.acc hS.out.but.size hsa hbools (Wa := wq.alloc (.cells #[.slice A2 ord.length C2] 124)) (C := C2) ((Below.refl _ _).alloc (Nat.le_refl _) _)
          have hlen : ((rsT t ord ac).take j).length = j := by rw [List.length_take, rsT_len]; have := JL.out; omega
          have hln : List.length ((List.range ord.length).map TT) = ord.length := by simp
          rw [hln, hlen] at hpp
          rw [hlen] at hown
          have HU := Lib.hid hU; have HOWN := Lib.hid hown; have HPP := Lib.hid hpp
          obtain ⟨p0, p1, p2, p3, p4, o0, o1, o2, o3, o4⟩ := five_facts HU.out.box
          clear hsa hbools hU hown hpp hvl hlen hln hO hBw
          have HEX := Lib.hid hex
          obtain ⟨X, hX⟩ : ∃ X : Int, X = (x : Int) := ⟨_, rfl⟩
          have hX1 : decide (X < (ord.length : Int)) = false := decide_eq_false (by rw [hX]; omega)
          rw [← hX]
          clear hex hX
          go_wp2_with (at_builtin; refine wpList_one Try.elBB _ rfl _ _ rfl w2.heap.size j wq.heap.size v (.slice A2 ord.length C2) vals rfl ?hx HOWN.out ?hc rfl ?hn ?hz ?_)
          case hx => (first | rfl | simp)
          case hc => simp [go_sem]
          case hn => exact j4
          case hz => have := HU.out.but.size; simp; omega
          intro v' w' ho hg hat
          have hacc := HPP.out v' w' ho hg (by simpa using hat)
          obtain ⟨Zv, lv, Cv, hvf⟩ := accForm hacc
          subst hvf
          obtain ⟨hX, hbx⟩ := BA.push (i := 3) boolsF_ok (fun _ _ => rfl) (HU.out.grow boolsF_ok ((Below.refl _ _).alloc (Nat.le_refl _) (.cells #[.slice A2 ord.length C2] 124))) hacc hg
          obtain ⟨q0, q1, q2, q3, q4, t0, t1, t2, t3, t4⟩ := five_facts hbx
          have HX2 : Hid (BA 124 BoolsF List.length (fun v => #[.int .i64 (t : Int), .int .i64 (a : Int), .int .i64 (n : Int), v, .slice none 0 0]) w1.heap.size w2 ((rsT t ord ac).take (j + 1)) (.slice Zv lv Cv) (w'.setCell ⟨w1.heap.size, 3, none⟩ (.slice Zv lv Cv))) := by rw [HST.out]; exact hX
          clear hX hacc ho hg hat p0 p1 p2 p3 p4 o0 o1 o2 o3 o4 hbx
          go_wp2_with fail
          go_roundw
          case rel => exact ⟨j + 1, _, JL.out, by go_num, HX2.out⟩
          case measure => have := JL.out; simp [intOf]; omega
    · obtain rfl : t = j := by omega
      have hall : (rsT t ord ac).take t = rsT t ord ac := List.take_of_length_le (by rw [rsT_len]; exact Nat.le_refl _)
      rw [hall] at hS
      obtain ⟨A1, C1, hv1, hR1⟩ := hS.out.acc.done
      rw [rsT_len] at hv1
      subst hv1
      have B23 : Hid (w2.heap.size ≤ w3.heap.size) := hS.out.but.size
      have z3 : w1.heap.size < w3.heap.size := Nat.lt_of_lt_of_le HZ2.out hS.out.but.size
      have HTT3 : Hid (BBF w3 (rsT t ord ac) A1 (rng w2.heap.size w3.heap.size)) := hR1
      have H3 : Hid (BA 57 BBF List.length (fun v => #[.int .i64 (t : Int), .int .i64 (a : Int), .int .i64 (n : Int), .slice A1 t C1, v]) w1.heap.size w3 ((rsA ord nx).take 0) (.slice none 0 0) w3) := ⟨hS.out.box, Acc.start, ButF.refl _ _, z3⟩
      clear hR1 hall hS
      go_wp2_with fail
      clear c3
      go_loopw [9] (fun i wr => ∃ (j : Nat) (v : Value), j ≤ nx.length ∧ i = .int .i64 j ∧ Hid (BA 57 BBF List.length (fun v => #[.int .i64 (t : Int), .int .i64 (a : Int), .int .i64 (n : Int), .slice A1 t C1, v]) w1.heap.size w3 ((rsA ord nx).take j) v wr)) (fun i _ => nx.length - (intOf i).toNat)
      case atStart => exact ⟨0, _, Nat.zero_le _, rfl, H3.out⟩
      case round =>
        obtain ⟨j, v, hj, rfl, hS⟩ := hrel
        clear H3
        obtain ⟨w5, rfl⟩ : ∃ w5, w5 = wr := ⟨_, rfl⟩
        have B5 := Lib.hid (hS.out.but.old B3.out)
        have z5 : w1.heap.size < w5.heap.size := Nat.lt_of_lt_of_le z3 hS.out.but.size
        have S5 : Sees w w5 := HS1.out.below B5.out
        have HS5 := Lib.hid S5
        have c4 := kc S5 HG.out.2.2.2
        by_cases hjn : j < nx.length
        · obtain ⟨bB, oB, _, hBe, hat⟩ := HB.out (by rintro rfl; simp at hjn)
          obtain ⟨RB, DB, cB, qB⟩ := hat j nx[j] (List.getElem?_eq_getElem hjn)
          have hstep := rsA_step (ord := ord) hjn
          obtain ⟨hr1, hr2⟩ := HNR.out nx[j] (List.getElem_mem hjn)
          obtain ⟨rows, hrows⟩ : ∃ x, x = nx[j] := ⟨_, rfl⟩
          rw [← hrows] at cB qB hstep hr1 hr2
          have HST := Lib.hid hstep; have HR1_ := Lib.hid hr1; have HR2_ := Lib.hid hr2; have QB := Lib.hid qB; have CB := Lib.hid cB; have JL := Lib.hid hjn
          have hn4 : nx.length ≤ 4 := by rw [HNL.out]; exact HA4.out
          have j0 : (0 : Int) ≤ (j : Int) := Int.natCast_nonneg _
          have j1 : (j : Int) < (nx.length : Int) := by omega
          have j4 : j ≤ 1048576 := by omega
          clear hstep hr1 hr2 hrows qB cB hat hjn S5
          subst hBe
          go_wp2_with fail
          clear c4
          go_loopw [10, 11] (fun sv i wr => ∃ (x : Nat) (mv : Value), x ≤ ord.length ∧ i = .int .i64 x ∧ mv = sv ∧ Hid (Acc 124 BoolsF List.length w5.heap.size wr mv ((rsR ord rows).take x)) ∧ Hid (Below w5.heap.size w5 wr)) (fun _ i _ => ord.length - (intOf i).toNat)
          case atStart => exact ⟨0, _, Nat.zero_le _, rfl, rfl, Acc.made (Nat.le_refl _), (Below.refl _ _).alloc (Nat.le_refl _) _⟩
          case round =>
            obtain ⟨x, mv, hx, rfl, rfl, hM, hBm⟩ := hrel
            obtain ⟨w6, rfl⟩ : ∃ w6, w6 = wr := ⟨_, rfl⟩
            by_cases hxn : x < ord.length
            · obtain ⟨kx, hk⟩ : ∃ k, k = (nth ord x).toNat := ⟨_, rfl⟩
              obtain ⟨hk1, hk2⟩ := HKX.out x hxn
              have hstep2 := rsR_step (rows := rows) hxn
              rw [← hk] at hk1 hk2 hstep2
              have hkr : kx < rows.length := by rw [HR1_.out]; exact hk2
              obtain ⟨yR, zR, _, hRe, hat2⟩ := QB.out (by rintro rfl; simp at hkr)
              obtain ⟨R2, D2, cR, qR⟩ := hat2 kx rows[kx] (List.getElem?_eq_getElem hkr)
              have hrl : rows[kx].length = p := HR2_.out rows[kx] (List.getElem_mem hkr)
              obtain ⟨row, hrow⟩ : ∃ row, row = rows[kx] := ⟨_, rfl⟩
              obtain ⟨TT, hTT⟩ : ∃ TT : Nat → Bool, TT = fun y => (rows.getD kx []).getD (nth ord y).toNat false := ⟨_, rfl⟩
              have hTr : ∀ (y k : Nat) (hy : nth ord y = (k : Int)) (hk : k < row.length), TT y = row[k] := fun y k hy hk => by subst hrow; rw [hTT]; dsimp only; rw [hy, Int.toNat_natCast, getD_bb hkr hk]
              rw [← hTT] at hstep2
              rw [← hrow] at cR qR hrl
              obtain ⟨yo, zo, hOe, hato⟩ := HOR.out (by rintro rfl; simp at hxn)
              have cox := hato x hxn
              rw [hk1] at cox
              have HST2 := Lib.hid hstep2; have HTR := Lib.hid hTr; have HRL := Lib.hid hrl; have QA := Lib.hid qR; have CR := Lib.hid cR; have COX := Lib.hid cox; have HATO := Lib.hid hato
              have hs6 : Sees w w6 := HS5.out.below hBm.out
              have HS6 := Lib.hid hs6
              have XM := Lib.hid hxn
              have x0 : (0 : Int) ≤ (x : Int) := Int.natCast_nonneg _
              have x1 : (x : Int) < (ord.length : Int) := by omega
              have kx0 : (0 : Int) ≤ (kx : Int) := Int.natCast_nonneg _
              have kx1 : (kx : Int) < (rows.length : Int) := by omega
              have z56 : w5.heap.size ≤ w6.heap.size := hBm.out.size
              clear hk hk1 hk2 hkr hstep2 hat2 hrl hrow hTT hTr cR qR cox hato hs6 hxn
              subst hRe hOe
              go_wp2_with fail
              go_loopw [12, 13] (fun sv i wr => ∃ (y : Nat) (rv : Value), y ≤ ord.length ∧ i = .int .i64 y ∧ rv = sv ∧ Hid (OwnB wr w6.heap.size rv ((List.range y).map TT)) ∧ Hid (Below w6.heap.size w6 wr)) (fun _ i _ => ord.length - (intOf i).toNat)
              case atStart => exact ⟨0, _, Nat.zero_le _, rfl, rfl, OwnB.made w6, (Below.refl _ _).alloc (Nat.le_refl _) _⟩
              case round =>
                obtain ⟨y, rv, hy, rfl, rfl, hO, hBw⟩ := hrel
                obtain ⟨wq, rfl⟩ : ∃ wq, wq = wr := ⟨_, rfl⟩
                by_cases hyn : y < ord.length
                · obtain ⟨k, hk⟩ : ∃ k, k = (nth ord y).toNat := ⟨_, rfl⟩
                  obtain ⟨hk1, hk2⟩ := HKX.out y hyn
                  rw [← hk] at hk1 hk2
                  have hkr : k < row.length := by rw [HRL.out]; exact hk2
                  obtain ⟨y3, z3, _, hRe, hat2⟩ := QA.out (by rintro rfl; simp at hkr)
                  obtain ⟨q, hq⟩ : ∃ q, q = row[k] := ⟨_, rfl⟩
                  have d0 := hat2 k row[k] (List.getElem?_eq_getElem hkr)
                  rw [← hq] at d0
                  have HTQ : Hid (TT y = q) := by show _ = _; rw [hq]; exact HTR.out y k hk1 hkr
                  have co := HATO.out y hyn
                  rw [hk1] at co
                  subst hRe
                  have HL : Hid (St w6 [(bm, 4, .slice (some ⟨bB, oB, none⟩) nx.length D), (bB, oB + j, .slice (some ⟨yR, zR, none⟩) rows.length DB), (yo, zo + x, .int .i64 (kx : Int)), (yR, zR + kx, .slice (some ⟨y3, z3, none⟩) row.length D2), (yo, zo + y, .int .i64 (k : Int)), (y3, z3 + k, .bool q)] w6) := ⟨Sees.refl _, kc HS6.out HG.out.2.2.2, kc HS6.out CB.out, kc HS6.out COX.out, kc HS6.out CR.out, kc HS6.out co, kc HS6.out d0, trivial⟩
                  have y0 : (0 : Int) ≤ (y : Int) := Int.natCast_nonneg _
                  have y1 : (y : Int) < (ord.length : Int) := by omega
                  have q0 : (0 : Int) ≤ (k : Int) := Int.natCast_nonneg _
                  have q1 : (k : Int) < (row.length : Int) := by omega
                  clear hk hk1 hk2 hkr hat2 hq d0 co
                  have XL_ := Lib.hid hyn
                  clear hyn
                  go_wp2_with fail
                  refine wp_region_held_drew (S := fun w' => St w6 [(bm, 4, .slice (some ⟨bB, oB, none⟩) nx.length D), (bB, oB + j, .slice (some ⟨yR, zR, none⟩) rows.length DB), (yo, zo + x, .int .i64 (kx : Int)), (yR, zR + kx, .slice (some ⟨y3, z3, none⟩) row.length D2), (yo, zo + y, .int .i64 (k : Int)), (y3, z3 + k, .bool q)] w') (by kernel_rfl) (St.below HL.out (hBw.out.trans (Below.refl _ _)) : St w6 [(bm, 4, .slice (some ⟨bB, oB, none⟩) nx.length D), (bB, oB + j, .slice (some ⟨yR, zR, none⟩) rows.length DB), (yo, zo + x, .int .i64 (kx : Int)), (yR, zR + kx, .slice (some ⟨y3, z3, none⟩) row.length D2), (yo, zo + y, .int .i64 (k : Int)), (y3, z3 + k, .bool q)] wq).drew (fun HS => ?_)
                  obtain ⟨w20, ew20⟩ : ∃ wn, wn = wq.drew := ⟨_, rfl⟩
                  have hO2 : OwnB w20 w6.heap.size rv ((List.range y).map TT) := by rw [ew20]; exact hO.out
                  have hB2 : Below w6.heap.size w6 w20 := by rw [ew20]; exact hBw.out.drew
                  have HO2 := Lib.hid hO2; have HB2 := Lib.hid hB2
                  rw [← ew20] at HS ⊢
                  clear ew20 hO hBw hO2 hB2
                  refine wpAnyH_take (i := 0) (oi := { dst := some 82, op := Op.move (Operand.tmp 12), type := 124, pos := "l05_costs.go:115", after := #[], guard := none }) (v := rv) rfl (by kernel_rfl) (by kernel_rfl) (by kernel_rfl) (fun _ _ _ h => h) (Or.inl ⟨rfl, fun W hW => by (obtain ⟨_, y0_, y1_, y2_, y3_, y4_, y5_, _⟩ := hW; go_simp; try rfl)⟩) HS ?_
                  try simp only [Act.put, List.setIfInBounds_toArray, List.set_cons_zero, List.set_cons_succ]
                  refine wpAnyH_take (i := 1) (oi := { dst := some 83, op := Op.move (Operand.tmp 0), type := 111, pos := "l05_costs.go:115", after := #[], guard := none }) (v := .pointer (some ⟨bm, 0, none⟩)) rfl (by kernel_rfl) (by kernel_rfl) (by kernel_rfl) (fun _ _ _ h => h) (Or.inl ⟨rfl, fun W hW => by (obtain ⟨_, y0_, y1_, y2_, y3_, y4_, y5_, _⟩ := hW; go_simp; try rfl)⟩) HS ?_
                  try simp only [Act.put, List.setIfInBounds_toArray, List.set_cons_zero, List.set_cons_succ]
                  refine wpAnyH_take (i := 2) (oi := { dst := some 84, op := Op.nilCheck (Operand.tmp 83), type := 0, pos := "l05_costs.go:115", after := #[{ on := 1, ground := Ground.data }], guard := none }) (v := .pointer (some ⟨bm, 0, none⟩)) rfl (by kernel_rfl) (by kernel_rfl) (by kernel_rfl) (fun _ _ _ h => h) (Or.inl ⟨rfl, fun W hW => by (obtain ⟨_, y0_, y1_, y2_, y3_, y4_, y5_, _⟩ := hW; go_simp; try rfl)⟩) HS ?_
                  try simp only [Act.put, List.setIfInBounds_toArray, List.set_cons_zero, List.set_cons_succ]
                  refine wpAnyH_take (i := 3) (oi := { dst := some 85, op := Op.fieldAddr 63 (Operand.tmp 84) 3, type := 0, pos := "l05_costs.go:115", after := #[{ on := 2, ground := Ground.data }], guard := none }) (v := .pointer (some ⟨bm, 4, none⟩)) rfl (by kernel_rfl) (by kernel_rfl) (by kernel_rfl) (fun _ _ _ h => h) (Or.inl ⟨rfl, fun W hW => by (obtain ⟨_, y0_, y1_, y2_, y3_, y4_, y5_, _⟩ := hW; go_simp; try rfl)⟩) HS ?_
                  try simp only [Act.put, List.setIfInBounds_toArray, List.set_cons_zero, List.set_cons_succ]
                  refine wpAnyH_take (i := 4) (oi := { dst := some 86, op := Op.load 58 (Operand.tmp 85), type := 58, pos := "l05_costs.go:115", after := #[{ on := 3, ground := Ground.data }], guard := none }) (v := .slice (some ⟨bB, oB, none⟩) nx.length D) rfl (by kernel_rfl) (by kernel_rfl) (by kernel_rfl) (fun _ _ _ h => h) (Or.inl ⟨rfl, fun W hW => by (obtain ⟨_, y0_, y1_, y2_, y3_, y4_, y5_, _⟩ := hW; go_simp; try rfl)⟩) HS ?_
                  try simp only [Act.put, List.setIfInBounds_toArray, List.set_cons_zero, List.set_cons_succ]
                  refine wpAnyH_take (i := 5) (oi := { dst := some 87, op := Op.move (Operand.tmp 9), type := 3, pos := "l05_costs.go:115", after := #[], guard := none }) (v := .int .i64 (j : Int)) rfl (by kernel_rfl) (by kernel_rfl) (by kernel_rfl) (fun _ _ _ h => h) (Or.inl ⟨rfl, fun W hW => by (obtain ⟨_, y0_, y1_, y2_, y3_, y4_, y5_, _⟩ := hW; go_simp; try rfl)⟩) HS ?_
                  try simp only [Act.put, List.setIfInBounds_toArray, List.set_cons_zero, List.set_cons_succ]
                  refine wpAnyH_take (i := 6) (oi := { dst := some 88, op := Op.indexAddr 58 (Operand.tmp 86) (Operand.tmp 87), type := 0, pos := "l05_costs.go:115", after := #[{ on := 4, ground := Ground.data }, { on := 5, ground := Ground.data }], guard := none }) (v := .pointer (some ⟨bB, oB + j, none⟩)) rfl (by kernel_rfl) (by kernel_rfl) (by kernel_rfl) (fun _ _ _ h => h) (Or.inl ⟨rfl, fun W hW => by (obtain ⟨_, y0_, y1_, y2_, y3_, y4_, y5_, _⟩ := hW; go_simp; try rfl)⟩) HS ?_
                  try simp only [Act.put, List.setIfInBounds_toArray, List.set_cons_zero, List.set_cons_succ]
                  refine wpAnyH_take (i := 7) (oi := { dst := some 89, op := Op.load 57 (Operand.tmp 88), type := 57, pos := "l05_costs.go:115", after := #[{ on := 6, ground := Ground.data }], guard := none }) (v := .slice (some ⟨yR, zR, none⟩) rows.length DB) rfl (by kernel_rfl) (by kernel_rfl) (by kernel_rfl) (fun _ _ _ h => h) (Or.inl ⟨rfl, fun W hW => by (obtain ⟨_, y0_, y1_, y2_, y3_, y4_, y5_, _⟩ := hW; go_simp; try rfl)⟩) HS ?_
                  try simp only [Act.put, List.setIfInBounds_toArray, List.set_cons_zero, List.set_cons_succ]
                  refine wpAnyH_take (i := 8) (oi := { dst := some 90, op := Op.move (Operand.tmp 1), type := 26, pos := "l05_costs.go:115", after := #[], guard := none }) (v := .slice (some ⟨yo, zo, none⟩) ord.length OC) rfl (by kernel_rfl) (by kernel_rfl) (by kernel_rfl) (fun _ _ _ h => h) (Or.inl ⟨rfl, fun W hW => by (obtain ⟨_, y0_, y1_, y2_, y3_, y4_, y5_, _⟩ := hW; go_simp; try rfl)⟩) HS ?_
                  try simp only [Act.put, List.setIfInBounds_toArray, List.set_cons_zero, List.set_cons_succ]
                  refine wpAnyH_take (i := 9) (oi := { dst := some 91, op := Op.move (Operand.tmp 11), type := 3, pos := "l05_costs.go:115", after := #[], guard := none }) (v := .int .i64 (x : Int)) rfl (by kernel_rfl) (by kernel_rfl) (by kernel_rfl) (fun _ _ _ h => h) (Or.inl ⟨rfl, fun W hW => by (obtain ⟨_, y0_, y1_, y2_, y3_, y4_, y5_, _⟩ := hW; go_simp; try rfl)⟩) HS ?_
                  try simp only [Act.put, List.setIfInBounds_toArray, List.set_cons_zero, List.set_cons_succ]
                  refine wpAnyH_take (i := 10) (oi := { dst := some 92, op := Op.indexAddr 26 (Operand.tmp 90) (Operand.tmp 91), type := 0, pos := "l05_costs.go:115", after := #[{ on := 8, ground := Ground.data }, { on := 9, ground := Ground.data }], guard := none }) (v := .pointer (some ⟨yo, zo + x, none⟩)) rfl (by kernel_rfl) (by kernel_rfl) (by kernel_rfl) (fun _ _ _ h => h) (Or.inl ⟨rfl, fun W hW => by (obtain ⟨_, y0_, y1_, y2_, y3_, y4_, y5_, _⟩ := hW; go_simp; try rfl)⟩) HS ?_
                  try simp only [Act.put, List.setIfInBounds_toArray, List.set_cons_zero, List.set_cons_succ]
                  refine wpAnyH_take (i := 11) (oi := { dst := some 93, op := Op.load 2 (Operand.tmp 92), type := 2, pos := "l05_costs.go:115", after := #[{ on := 10, ground := Ground.data }], guard := none }) (v := .int .i64 (kx : Int)) rfl (by kernel_rfl) (by kernel_rfl) (by kernel_rfl) (fun _ _ _ h => h) (Or.inl ⟨rfl, fun W hW => by (obtain ⟨_, y0_, y1_, y2_, y3_, y4_, y5_, _⟩ := hW; go_simp; try rfl)⟩) HS ?_
                  try simp only [Act.put, List.setIfInBounds_toArray, List.set_cons_zero, List.set_cons_succ]
                  refine wpAnyH_take (i := 12) (oi := { dst := some 94, op := Op.indexAddr 57 (Operand.tmp 89) (Operand.tmp 93), type := 0, pos := "l05_costs.go:115", after := #[{ on := 7, ground := Ground.data }, { on := 11, ground := Ground.data }], guard := none }) (v := .pointer (some ⟨yR, zR + kx, none⟩)) rfl (by kernel_rfl) (by kernel_rfl) (by kernel_rfl) (fun _ _ _ h => h) (Or.inl ⟨rfl, fun W hW => by (obtain ⟨_, y0_, y1_, y2_, y3_, y4_, y5_, _⟩ := hW; go_simp; try rfl)⟩) HS ?_
                  try simp only [Act.put, List.setIfInBounds_toArray, List.set_cons_zero, List.set_cons_succ]
                  refine wpAnyH_take (i := 13) (oi := { dst := some 95, op := Op.load 124 (Operand.tmp 94), type := 124, pos := "l05_costs.go:115", after := #[{ on := 12, ground := Ground.data }], guard := none }) (v := .slice (some ⟨y3, z3, none⟩) row.length D2) rfl (by kernel_rfl) (by kernel_rfl) (by kernel_rfl) (fun _ _ _ h => h) (Or.inl ⟨rfl, fun W hW => by (obtain ⟨_, y0_, y1_, y2_, y3_, y4_, y5_, _⟩ := hW; go_simp; try rfl)⟩) HS ?_
                  try simp only [Act.put, List.setIfInBounds_toArray, List.set_cons_zero, List.set_cons_succ]
                  refine wpAnyH_take (i := 14) (oi := { dst := some 96, op := Op.move (Operand.tmp 1), type := 26, pos := "l05_costs.go:115", after := #[], guard := none }) (v := .slice (some ⟨yo, zo, none⟩) ord.length OC) rfl (by kernel_rfl) (by kernel_rfl) (by kernel_rfl) (fun _ _ _ h => h) (Or.inl ⟨rfl, fun W hW => by (obtain ⟨_, y0_, y1_, y2_, y3_, y4_, y5_, _⟩ := hW; go_simp; try rfl)⟩) HS ?_
                  try simp only [Act.put, List.setIfInBounds_toArray, List.set_cons_zero, List.set_cons_succ]
                  refine wpAnyH_take (i := 15) (oi := { dst := some 97, op := Op.move (Operand.tmp 13), type := 3, pos := "l05_costs.go:115", after := #[], guard := none }) (v := .int .i64 (y : Int)) rfl (by kernel_rfl) (by kernel_rfl) (by kernel_rfl) (fun _ _ _ h => h) (Or.inl ⟨rfl, fun W hW => by (obtain ⟨_, y0_, y1_, y2_, y3_, y4_, y5_, _⟩ := hW; go_simp; try rfl)⟩) HS ?_
                  try simp only [Act.put, List.setIfInBounds_toArray, List.set_cons_zero, List.set_cons_succ]
                  refine wpAnyH_take (i := 16) (oi := { dst := some 98, op := Op.indexAddr 26 (Operand.tmp 96) (Operand.tmp 97), type := 0, pos := "l05_costs.go:115", after := #[{ on := 14, ground := Ground.data }, { on := 15, ground := Ground.data }], guard := none }) (v := .pointer (some ⟨yo, zo + y, none⟩)) rfl (by kernel_rfl) (by kernel_rfl) (by kernel_rfl) (fun _ _ _ h => h) (Or.inl ⟨rfl, fun W hW => by (obtain ⟨_, y0_, y1_, y2_, y3_, y4_, y5_, _⟩ := hW; go_simp; try rfl)⟩) HS ?_
                  try simp only [Act.put, List.setIfInBounds_toArray, List.set_cons_zero, List.set_cons_succ]
                  refine wpAnyH_take (i := 17) (oi := { dst := some 99, op := Op.load 2 (Operand.tmp 98), type := 2, pos := "l05_costs.go:115", after := #[{ on := 16, ground := Ground.data }], guard := none }) (v := .int .i64 (k : Int)) rfl (by kernel_rfl) (by kernel_rfl) (by kernel_rfl) (fun _ _ _ h => h) (Or.inl ⟨rfl, fun W hW => by (obtain ⟨_, y0_, y1_, y2_, y3_, y4_, y5_, _⟩ := hW; go_simp; try rfl)⟩) HS ?_
                  try simp only [Act.put, List.setIfInBounds_toArray, List.set_cons_zero, List.set_cons_succ]
                  refine wpAnyH_take (i := 18) (oi := { dst := some 100, op := Op.indexAddr 124 (Operand.tmp 95) (Operand.tmp 99), type := 0, pos := "l05_costs.go:115", after := #[{ on := 13, ground := Ground.data }, { on := 17, ground := Ground.data }], guard := none }) (v := .pointer (some ⟨y3, z3 + k, none⟩)) rfl (by kernel_rfl) (by kernel_rfl) (by kernel_rfl) (fun _ _ _ h => h) (Or.inl ⟨rfl, fun W hW => by (obtain ⟨_, y0_, y1_, y2_, y3_, y4_, y5_, _⟩ := hW; go_simp; try rfl)⟩) HS ?_
                  try simp only [Act.put, List.setIfInBounds_toArray, List.set_cons_zero, List.set_cons_succ]
                  refine wpAnyH_take (i := 19) (oi := { dst := some 101, op := Op.load 4 (Operand.tmp 100), type := 4, pos := "l05_costs.go:115", after := #[{ on := 18, ground := Ground.data }], guard := none }) (v := .bool q) rfl (by kernel_rfl) (by kernel_rfl) (by kernel_rfl) (fun _ _ _ h => h) (Or.inl ⟨rfl, fun W hW => by (obtain ⟨_, y0_, y1_, y2_, y3_, y4_, y5_, _⟩ := hW; go_simp; try rfl)⟩) HS ?_
                  try simp only [Act.put, List.setIfInBounds_toArray, List.set_cons_zero, List.set_cons_succ]
                  refine wpAnyH_ready (rs := [20]) (by kernel_rfl) (by simp) ?_
                  refine AllReadyH.cons (o := { dst := some 102, op := Op.buildSlice 124 1 #[(0, Operand.tmp 101)], type := 124, pos := "l05_costs.go:115", after := #[{ on := 19, ground := Ground.data }], guard := none }) rfl (fun K hK => ?_) AllReadyH.nil
                  go_simp
                  obtain ⟨wn, ewn⟩ : ∃ wn, wn = w20.alloc (.cells #[.bool q] 4) := ⟨_, rfl⟩
                  obtain ⟨sb, esb⟩ : ∃ s, s = w20.heap.size := ⟨_, rfl⟩
                  rw [← ewn, ← esb]
                  have hcb : wn.cell? ⟨sb, 0, none⟩ = some (.bool q) := by rw [ewn, esb]; simp [go_sem]
                  have hO3 : OwnB wn w6.heap.size rv ((List.range y).map TT) := by rw [ewn]; exact HO2.out.keep ((Below.refl _ _).alloc (Nat.le_refl _) _)
                  have hB3 : Below w6.heap.size w6 wn := by rw [ewn]; exact HB2.out.alloc HB2.out.size _
                  have HS' : St w6 [(bm, 4, .slice (some ⟨bB, oB, none⟩) nx.length D), (bB, oB + j, .slice (some ⟨yR, zR, none⟩) rows.length DB), (yo, zo + x, .int .i64 (kx : Int)), (yR, zR + kx, .slice (some ⟨y3, z3, none⟩) row.length D2), (yo, zo + y, .int .i64 (k : Int)), (y3, z3 + k, .bool q)] wn := St.below HL.out hB3
                  have HO3 := Lib.hid hO3; have HB3 := Lib.hid hB3; have HCB := Lib.hid hcb
                  clear HS HO2 HB2 hO3 hB3 hcb ewn esb
                  have HS := HS'; clear HS'
                  refine hK.out _ _ HS (fun _ => ?_)
                  clear hK K
                  try simp only [Act.put, List.setIfInBounds_toArray, List.set_cons_zero, List.set_cons_succ]
                  refine wpAnyH_ready (rs := [21]) (by kernel_rfl) (by simp) ?_
                  refine AllReadyH.cons (o := { dst := some 103, op := Op.call { callee := Callee.builtin Builtin.append, args := #[Operand.tmp 82, Operand.tmp 102], argTypes := #[124, 124] }, type := 124, pos := "l05_costs.go:115", after := #[{ on := 0, ground := Ground.data }, { on := 20, ground := Ground.data }], guard := none }) rfl (fun K hK => ?_) AllReadyH.nil
                  refine step_one elB_here wn (by rfl) _ _ (by rfl) w6.heap.size ((List.range y).map TT).length sb rv (.bool q) _ (by rfl) (by rfl) HO3.out HCB.out rfl (by have := XL_.out; have := HN8.out; simp; omega) HB3.out.size ?_
                  intro v' w' ho hg hat
                  have HO4 : Hid (OwnB w' w6.heap.size v' ((List.range (y + 1)).map TT)) := by show OwnB _ _ _ _; rw [range_map_step, HTQ.out]; exact OwnB.push ho
                  have hB4 : Below w6.heap.size w6 w' := HB3.out.grown hg HB3.out.size (fun k hk => (World.ownsRow.lt HO3.out k hk).1)
                  have HB4 := Lib.hid hB4
                  have HS' : St w6 [(bm, 4, .slice (some ⟨bB, oB, none⟩) nx.length D), (bB, oB + j, .slice (some ⟨yR, zR, none⟩) rows.length DB), (yo, zo + x, .int .i64 (kx : Int)), (yR, zR + kx, .slice (some ⟨y3, z3, none⟩) row.length D2), (yo, zo + y, .int .i64 (k : Int)), (y3, z3 + k, .bool q)] w' := St.below HL.out hB4
                  clear HS HO3 HB3 HCB ho hg hat hB4
                  have HS := HS'; clear HS'
                  refine hK.out _ _ HS (fun _ => ?_)
                  clear hK K
                  try simp only [Act.put, List.setIfInBounds_toArray, List.set_cons_zero, List.set_cons_succ]
                  refine wpAnyH_take (i := 22) (oi := { dst := some 12, op := Op.assign (Operand.tmp 103), type := 124, pos := "l05_costs.go:115", after := #[{ on := 21, ground := Ground.data }, { on := 21, ground := Ground.chain }, { on := 0, ground := Ground.phase }, { on := 1, ground := Ground.phase }, { on := 2, ground := Ground.phase }, { on := 3, ground := Ground.phase }, { on := 4, ground := Ground.phase }, { on := 5, ground := Ground.phase }, { on := 6, ground := Ground.phase }, { on := 7, ground := Ground.phase }, { on := 8, ground := Ground.phase }, { on := 9, ground := Ground.phase }, { on := 10, ground := Ground.phase }, { on := 11, ground := Ground.phase }, { on := 12, ground := Ground.phase }, { on := 13, ground := Ground.phase }, { on := 14, ground := Ground.phase }, { on := 15, ground := Ground.phase }, { on := 16, ground := Ground.phase }, { on := 17, ground := Ground.phase }, { on := 18, ground := Ground.phase }, { on := 19, ground := Ground.phase }, { on := 20, ground := Ground.phase }, { on := 21, ground := Ground.phase }], guard := none }) (v := v') rfl (by kernel_rfl) (by kernel_rfl) (by kernel_rfl) (fun _ _ _ h => h) (Or.inl ⟨rfl, fun W hW => by (obtain ⟨_, y0_, y1_, y2_, y3_, y4_, y5_, _⟩ := hW; go_simp; try rfl)⟩) HS ?_
                  try simp only [Act.put, List.setIfInBounds_toArray, List.set_cons_zero, List.set_cons_succ]
                  refine wpAnyH_done (by kernel_rfl) ?_ _
                  clear HS
                  go_wp2_with fail
                  go_roundw
                  case rel => exact ⟨y + 1, v', XL_.out, by go_num, rfl, HO4.out, HB4.out⟩
                  case measure => have := XL_.out; simp [intOf]; omega
                · have hey : y = ord.length := by omega
                  clear hyn hy
                  rw [hey] at hO
                  obtain ⟨A3, C3, hv3, hbools⟩ := hO.out.done
                  simp only [List.length_map, List.length_range] at hv3
                  subst hv3
                  have hsa := hBw.out
                  obtain ⟨vals, hvl, hown, hpp⟩ := Acc.push boolsF_ok hM.out z56 hsa hbools (Wa := wq.alloc (.cells #[.slice A3 ord.length C3] 124)) (C := C3) ((Below.refl _ _).alloc (Nat.le_refl _) _)
                  have hlen : ((rsR ord rows).take x).length = x := by rw [List.length_take, rsR_len]; have := XM.out; omega
                  have hln : List.length ((List.range ord.length).map TT) = ord.length := by simp
                  rw [hln, hlen] at hpp
                  rw [hlen] at hown
                  have HOWN := Lib.hid hown; have HPP := Lib.hid hpp
                  have HBA := Lib.hid (hBm.out.trans (hsa.mono z56))
                  have zq : w5.heap.size ≤ wq.heap.size := HBA.out.size
                  obtain ⟨X, hX⟩ : ∃ X : Int, X = (y : Int) := ⟨_, rfl⟩
                  have hX1 : decide (X < (ord.length : Int)) = false := decide_eq_false (by rw [hX]; omega)
                  rw [← hX]
                  clear hsa hbools hown hpp hvl hlen hln hO hBw hey hX
                  go_wp2_with (at_builtin; refine wpList_one Try.elBB _ rfl _ _ rfl w5.heap.size x wq.heap.size mv (.slice A3 ord.length C3) vals rfl ?hx HOWN.out ?hc rfl ?hn ?hz ?_)
                  case hx => (first | rfl | simp)
                  case hc => simp [go_sem]
                  case hn => have := XM.out; omega
                  case hz => simp; omega
                  intro v' w' ho hg hat
                  have HA2 : Hid (Acc 124 BoolsF List.length w5.heap.size w' v' ((rsR ord rows).take (x + 1))) := by show Acc _ _ _ _ _ _ _; rw [HST2.out]; exact HPP.out v' w' ho hg (by simpa using hat)
                  have HB2 : Hid (Below w5.heap.size w5 w') := (HBA.out.alloc zq _).grown hg (by simp; omega) (fun k hk => (HOWN.out.lt k hk).1)
                  clear ho hg hat
                  go_wp2_with fail
                  go_roundw
                  case rel => exact ⟨x + 1, v', XM.out, by go_num, rfl, HA2.out, HB2.out⟩
                  case measure => have := XM.out; simp [intOf]; omega
            · have hex : x = ord.length := by omega
              have hall : (rsR ord rows).take x = rsR ord rows := List.take_of_length_le (by rw [rsR_len, hex]; exact Nat.le_refl _)
              rw [hall] at hM
              obtain ⟨A2, C2, hv2, hR2⟩ := hM.out.done
              rw [rsR_len] at hv2
              subst hv2
              have hsa := hBm.out
              have hQ2 : BBF w6 (rsR ord rows) A2 (rng w5.heap.size w6.heap.size) := hR2
              have hU := hS.out.grow bbF_ok hsa
              obtain ⟨vals, hvl, hown, hpp⟩ := Acc.push bbF_ok hS.out.acc hS.out.but.size hsa hQ2 (Wa := w6.alloc (.cells #[.slice A2 ord.length C2] 57)) (C := C2) ((Below.refl _ _).alloc (Nat.le_refl _) _)
              have hlen : ((rsA ord nx).take j).length = j := by rw [List.length_take, rsA_len]; have := JL.out; omega
              have hln : List.length (rsR ord rows) = ord.length := rsR_len _ _
              rw [hln, hlen] at hpp
              rw [hlen] at hown
              have HU := Lib.hid hU; have HOWN := Lib.hid hown; have HPP := Lib.hid hpp
              obtain ⟨p0, p1, p2, p3, p4, o0, o1, o2, o3, o4⟩ := five_facts HU.out.box
              obtain ⟨X, hX⟩ : ∃ X : Int, X = (x : Int) := ⟨_, rfl⟩
              have hX1 : decide (X < (ord.length : Int)) = false := decide_eq_false (by rw [hX]; omega)
              rw [← hX]
              clear hsa hQ2 hU hown hpp hvl hlen hln hM hBm hR2 hall hex hX hxn hx
              go_wp2_with (at_builtin; refine wpList_one Try.elBBB _ rfl _ _ rfl w3.heap.size j w6.heap.size v (.slice A2 ord.length C2) vals rfl ?hx HOWN.out ?hc rfl ?hn ?hz ?_)
              case hx => (first | rfl | simp)
              case hc => simp [go_sem]
              case hn => exact j4
              case hz => have := HU.out.but.size; simp; omega
              intro v' w' ho hg hat
              have hacc := HPP.out v' w' ho hg (by simpa using hat)
              obtain ⟨Zv, lv, Cv, hvf⟩ := accForm hacc
              subst hvf
              obtain ⟨hX, hbx⟩ := BA.push (i := 4) bbF_ok (fun _ _ => rfl) (HU.out.grow bbF_ok ((Below.refl _ _).alloc (Nat.le_refl _) (.cells #[.slice A2 ord.length C2] 57))) hacc hg
              obtain ⟨q0, q1, q2, q3, q4, t0, t1, t2, t3, t4⟩ := five_facts hbx
              have HX2 : Hid (BA 57 BBF List.length (fun v => #[.int .i64 (t : Int), .int .i64 (a : Int), .int .i64 (n : Int), .slice A1 t C1, v]) w1.heap.size w3 ((rsA ord nx).take (j + 1)) (.slice Zv lv Cv) (w'.setCell ⟨w1.heap.size, 4, none⟩ (.slice Zv lv Cv))) := by rw [HST.out]; exact hX
              clear hX hacc ho hg hat p0 p1 p2 p3 p4 o0 o1 o2 o3 o4 hbx
              go_wp2_with fail
              go_roundw
              case rel => exact ⟨j + 1, _, JL.out, by go_num, HX2.out⟩
              case measure => have := JL.out; simp [intOf]; omega
        · obtain rfl : j = nx.length := by omega
          obtain rfl := HN.out
          have lw1 : w.heap.size < w1.heap.size := by rw [HZ1.out]; exact Nat.lt_succ_self _
          have HR5 := (B5.out.block w.heap.size lw1).trans HR1.out
          obtain ⟨u0, u1, u2, u3, u4, x0, x1, x2, x3, x4⟩ := five_facts HR5
          have hall : (rsA ord nx).take nx.length = rsA ord nx := List.take_of_length_le (by rw [rsA_len]; exact Nat.le_refl _)
          rw [hall] at hS
          obtain ⟨A2, C2, hv2, hR2⟩ := hS.out.acc.done
          rw [rsA_len] at hv2
          subst hv2
          obtain ⟨m0, m1, m2, m3, m4, n0, n1, n2, n3, n4⟩ := five_facts hS.out.box
          have HR2 := Lib.hid hR2
          have HT5 : Hid (BBF w5 (rsT t ord ac) A1 (rng w2.heap.size w3.heap.size)) := bbF_ok.keep HTT3.out fun k hk => hS.out.but.block k hk.2 (by have := hk.1; have := HZ2.out; show k ≠ _; omega)
          have hzz := hS.out.but.size
          clear hR2
          go_wp2_with fail
          obtain ⟨y0, y1, y2, y3, y4, _, _, _, _, _⟩ := five_facts (five_block HR5 (.int .i64 (t : Int)) (.int .i64 (a : Int)) (.int .i64 (ord.length : Int)) (.slice A1 t C1) (.slice A2 nx.length C2))
          refine bodyPost_ret (v := .agg #[.int .i64 (t : Int), .int .i64 (a : Int), .int .i64 (ord.length : Int), .slice A1 t C1, .slice A2 nx.length C2]) (by simp [results, Try.results75, go_sem, y0, y1, y2, y3, y4]) rfl ?_
          exact mret5 HT5.out HR2.out (HS5.out) (Nat.le_refl _) (by have := HZ2.out; omega) B23.out hzz (rsT_len _ _ _) (rsA_len _ _) _ _ _ _ _
end Go.Proofs.Ytmblgkpgfofceaa

namespace Go.Proofs.Ytmblgkpgfofceaa
open Go.RowKit
attribute [local go_sem ↓] Go.wp_at_zero Go.wp_at_succ

set_option maxHeartbeats 2000000 in
set_option maxRecDepth 100000 in
theorem l05Tests_any (t a p : Int) (ac : List (List Bool)) (f1 : ac.length ≤ 1048576) (f2 : ∀ x ∈ ac, x.length ≤ 1048576) (A : Option Addr) (C : Nat) (w : World) (hA : BB 0 w ac A) :
    Calls Try.prog 125 #[.agg #[.int .i64 t, .int .i64 a], .int .i64 p, .slice A ac.length C] w fun e w' => e = .returned (.bool (validT t a p ac)) ∧ Below w.heap.size w w' := by
  obtain ⟨q1, hq1⟩ : ∃ q1 : Bool, q1 = sigOk t a := ⟨_, rfl⟩
  have K1 : Hid (∀ W : World, Calls Try.prog 101 #[.agg #[.int .i64 t, .int .i64 a]] W fun e w' => e = .returned (.bool q1) ∧ Below W.heap.size W w') := fun W => by rw [hq1]; exact l01Sig_any t a W
  obtain ⟨q2, hq2⟩ : ∃ q2 : Bool, q2 = inB p 1 8 := ⟨_, rfl⟩
  have K2 : Hid (∀ W : World, Calls Try.prog 102 #[.int .i64 p, .int .i64 1, .int .i64 8] W fun e w' => e = .returned (.bool q2) ∧ Below W.heap.size W w') := fun W => (in_any p 1 8 W).mono fun e w' h => ⟨by rw [hq2]; exact h.1, by rw [← h.2]; exact Below.refl _ _⟩
  have HA := Lib.hid hA; have HF := Lib.hid f2
  obtain ⟨w0, hw0⟩ : ∃ w0, w0 = w.alloc (.cells #[.int .i64 t, .int .i64 a] 29) := ⟨_, rfl⟩
  have B0 : Sees w w0 := by rw [hw0]; exact (Sees.refl w).alloc _
  have g0 : w0.cell? ⟨w.heap.size, 0, none⟩ = some (.int .i64 t) := by rw [hw0]; simp [go_sem]
  clear hA f2
  cases q1
  · have HD : Hid (validT t a p ac = false) := by show _ = _; unfold validT; rw [← hq1]; rfl
    clear hq1 hq2
    go_enter Try.func125, Try.ntmps125
    go_wp2_with fail
    rw [← hw0]
    refine (K1.out _).mono ?_
    rintro e w1 ⟨rfl, hb⟩
    clear hw0
    go_wp2_with fail
    go_ret
    exact ⟨ret_bool HD.out.symm, B0.below hb⟩
  cases q2
  · have HD : Hid (validT t a p ac = false) := by show _ = _; unfold validT; rw [← hq1, ← hq2]; rfl
    clear hq1 hq2
    go_enter Try.func125, Try.ntmps125
    go_wp2_with fail
    rw [← hw0]
    refine (K1.out _).mono ?_
    rintro e w1 ⟨rfl, hb⟩
    clear hw0
    go_wp2_with fail
    refine (K2.out _).mono ?_
    rintro e w2 ⟨rfl, hb2⟩
    have hb3 := (B0.below hb).below hb2
    clear hb hb2
    go_wp2_with fail
    go_ret
    exact ⟨ret_bool HD.out.symm, hb3⟩
  by_cases hlen : (ac.length : Int) = t
  case neg =>
    have HD : Hid (validT t a p ac = false) := by show _ = _; unfold validT; rw [← hq1, ← hq2, decide_eq_false hlen]; rfl
    have tn : ((ac.length : Int) != t) = true := by rw [bne_iff_ne]; exact hlen
    clear hq1 hq2 hlen
    go_enter Try.func125, Try.ntmps125
    go_wp2_with fail
    rw [← hw0]
    refine (K1.out _).mono ?_
    rintro e w1 ⟨rfl, hb⟩
    clear hw0
    go_wp2_with fail
    refine (K2.out _).mono ?_
    rintro e w2 ⟨rfl, hb2⟩
    have x0 := kc hb2 (kc hb g0)
    have hb3 := (B0.below hb).below hb2
    clear hb hb2
    go_wp2_with fail
    go_ret
    exact ⟨ret_bool HD.out.symm, hb3⟩
  have HD : Hid (validT t a p ac = allF (isRow p) ac 0) := by show _ = _; unfold validT; rw [← hq1, ← hq2, decide_eq_true hlen, allF_zero]; rfl
  have tn : ((ac.length : Int) != t) = false := by simp [hlen]
  clear hq1 hq2 hlen
  go_enter Try.func125, Try.ntmps125
  go_wp2_with fail
  rw [← hw0]
  refine (K1.out _).mono ?_
  rintro e w1 ⟨rfl, hb⟩
  clear hw0
  go_wp2_with fail
  refine (K2.out _).mono ?_
  rintro e w2 ⟨rfl, hb2⟩
  have x0 := kc hb2 (kc hb g0)
  have hb3 := (B0.below hb).below hb2
  clear hb hb2
  go_wp2_with fail
  have HB3 := Lib.hid hb3; clear hb3 x0 tn
  go_loopw [7] (fun i wr => ∃ j : Nat, j ≤ ac.length ∧ i = .int .i64 j ∧ Hid (validT t a p ac = allF (isRow p) ac j) ∧ Hid (Sees w wr)) (fun i _ => ac.length - (intOf i).toNat)
  case atStart => exact ⟨0, Nat.zero_le _, rfl, HD, HB3⟩
  case round =>
    obtain ⟨j, hj, rfl, hq, hB'⟩ := hrel
    clear HD HB3
    by_cases hjl : j < ac.length
    · obtain ⟨yA, zA, _, rfl, hat⟩ := HA.out (by rintro rfl; simp at hjl)
      obtain ⟨Aj, Cj, cA, _⟩ := hat j ac[j] (List.getElem?_eq_getElem hjl)
      have hst := allF_step (isRow p) ac hjl
      have hfx := HF.out ac[j] (List.getElem_mem hjl)
      obtain ⟨x, hx⟩ : ∃ x, x = ac[j] := ⟨_, rfl⟩
      rw [← hx] at cA hst hfx
      have hb := hB'.out
      have xA := kc hb cA
      have HAT := Lib.hid hat; have HX := Lib.hid hx
      have HST : Hid (validT t a p ac = (isRow p x && allF (isRow p) ac (j + 1))) := hq.out.trans hst
      have j0 : (0 : Int) ≤ (j : Int) := Int.natCast_nonneg _
      have j1 : (j : Int) < (ac.length : Int) := by omega
      clear hat hx hst hq cA
      by_cases hxp : (x.length : Int) = p
      · have tb : ((x.length : Int) != p) = false := by simp [hxp]
        have HE : Hid (validT t a p ac = allF (isRow p) ac (j + 1)) := by show _ = _; rw [HST.out, isRow_pos hxp]; rfl
        clear hxp HST
        go_wp2_with fail
        go_roundw
        case rel => exact ⟨j + 1, by omega, by go_num, HE, hB'⟩
        case measure => simp [intOf]; omega
      · have tb : ((x.length : Int) != p) = true := by rw [bne_iff_ne]; exact hxp
        have HE : Hid (validT t a p ac = false) := by show _ = _; rw [HST.out, isRow_neg hxp]; rfl
        clear hxp HST
        go_wp2_with fail
        go_ret
        exact ⟨ret_bool HE.out.symm, hb⟩
    · obtain rfl : j = ac.length := by omega
      have HE : Hid (validT t a p ac = true) := by show _ = _; rw [hq.out, allF_end]
      have hb := hB'.out
      clear hq
      go_wp2_with fail
      go_ret
      exact ⟨ret_bool HE.out.symm, hb⟩

set_option maxHeartbeats 4000000 in
set_option maxRecDepth 100000 in
theorem l05Ok_any (t a p : Int) (ac : List (List Bool)) (nx : List (List (List Bool))) (hs : SmallM ac nx) (A B : Option Addr) (C D : Nat) (b : Nat) (w : World) (hA : BB 0 w ac A) (hB : BBB 0 w nx B)
    (g0 : w.cell? ⟨b, 0, none⟩ = some (.int .i64 t)) (g1 : w.cell? ⟨b, 1, none⟩ = some (.int .i64 a)) (g2 : w.cell? ⟨b, 2, none⟩ = some (.int .i64 p)) (g3 : w.cell? ⟨b, 3, none⟩ = some (.slice A ac.length C)) (g4 : w.cell? ⟨b, 4, none⟩ = some (.slice B nx.length D)) :
    Calls Try.prog 73 #[.pointer (some ⟨b, 0, none⟩)] w fun e w' => e = .returned (.bool (validM t a p ac nx)) ∧ Below w.heap.size w w' := by
  obtain ⟨f1, f2, f3, f4⟩ := hs
  obtain ⟨q1, hq1⟩ : ∃ q1 : Bool, q1 = validT t a p ac := ⟨_, rfl⟩
  have K1 : Hid (∀ W : World, Sees w W → Calls Try.prog 125 #[.agg #[.int .i64 t, .int .i64 a], .int .i64 p, .slice A ac.length C] W fun e w' => e = .returned (.bool q1) ∧ Below W.heap.size W w') := fun W h => by rw [hq1]; exact l05Tests_any t a p ac f1 f2 A C W (bb_ok.below hA h)
  have HB := Lib.hid hB; have HF := Lib.hid f4
  clear hA hB f2 f4
  cases q1
  · have HD : Hid (validM t a p ac nx = false) := by show _ = _; unfold validM; rw [← hq1]; rfl
    clear hq1
    go_enter Try.func73, Try.ntmps73
    go_wp2_with fail
    refine wp_region_quietC w [(b, 0, .int .i64 t), (b, 1, .int .i64 a), (b, 2, .int .i64 p), (b, 3, .slice A ac.length C), (b, 4, .slice B nx.length D)] (by kernel_rfl) (by kernel_rfl) ⟨Below.refl _ _, g0, g1, g2, g3, g4, trivial⟩ ?_
    repeat (first | go_big_quiet_skip | (go_big_quiet_want; apply Exists.intro; refine ⟨fun W hW => ?_, ?_⟩; focus (have hK := Lib.hid hW; obtain ⟨hs, hc⟩ := hW; simp only [Has, and_true] at hc; go_simp; (first | rfl | exact ⟨rfl, rfl⟩ | exact quietC_call hK.out (K1.out _ hs)))) | (go_simp; go_big_quiet_on))
    refine wpQuiet_nil ?_
    intro w1 H1
    have hb : Below w.heap.size w w1 := H1.1
    clear H1
    go_wp2_with fail
    go_ret
    exact ⟨ret_bool HD.out.symm, hb⟩
  have HBD := Lib.hid (validT_bd hq1.symm)
  by_cases hlen : (nx.length : Int) = a
  case neg =>
    have HD : Hid (validM t a p ac nx = false) := by show _ = _; unfold validM; rw [← hq1, decide_eq_false hlen]; rfl
    have tn : ((nx.length : Int) != a) = true := by rw [bne_iff_ne]; exact hlen
    clear hq1 hlen
    go_enter Try.func73, Try.ntmps73
    go_wp2_with fail
    refine wp_region_quietC w [(b, 0, .int .i64 t), (b, 1, .int .i64 a), (b, 2, .int .i64 p), (b, 3, .slice A ac.length C), (b, 4, .slice B nx.length D)] (by kernel_rfl) (by kernel_rfl) ⟨Below.refl _ _, g0, g1, g2, g3, g4, trivial⟩ ?_
    repeat (first | go_big_quiet_skip | (go_big_quiet_want; apply Exists.intro; refine ⟨fun W hW => ?_, ?_⟩; focus (have hK := Lib.hid hW; obtain ⟨hs, hc⟩ := hW; simp only [Has, and_true] at hc; go_simp; (first | rfl | exact ⟨rfl, rfl⟩ | exact quietC_call hK.out (K1.out _ hs)))) | (go_simp; go_big_quiet_on))
    refine wpQuiet_nil ?_
    intro w1 H1
    have hb : Below w.heap.size w w1 := H1.1
    clear H1
    go_wp2_with fail
    go_ret
    exact ⟨ret_bool HD.out.symm, hb⟩
  have HD : Hid (validM t a p ac nx = allF (actM p) nx 0) := by show _ = _; unfold validM; rw [← hq1, decide_eq_true hlen, allF_zero]; rfl
  have tn : ((nx.length : Int) != a) = false := by simp [hlen]
  have hn4 : nx.length ≤ 4 := by have := HBD.out; omega
  clear hq1 hlen
  go_enter Try.func73, Try.ntmps73
  go_wp2_with fail
  refine wp_region_quietC w [(b, 0, .int .i64 t), (b, 1, .int .i64 a), (b, 2, .int .i64 p), (b, 3, .slice A ac.length C), (b, 4, .slice B nx.length D)] (by kernel_rfl) (by kernel_rfl) ⟨Below.refl _ _, g0, g1, g2, g3, g4, trivial⟩ ?_
  repeat (first | go_big_quiet_skip | (go_big_quiet_want; apply Exists.intro; refine ⟨fun W hW => ?_, ?_⟩; focus (have hK := Lib.hid hW; obtain ⟨hs, hc⟩ := hW; simp only [Has, and_true] at hc; go_simp; (first | rfl | exact ⟨rfl, rfl⟩ | exact quietC_call hK.out (K1.out _ hs)))) | (go_simp; go_big_quiet_on))
  refine wpQuiet_nil ?_
  intro w1 H1
  have hb : Below w.heap.size w w1 := H1.1
  have x4 := kc hb g4
  clear H1
  go_wp2_with fail
  have HB3 := Lib.hid hb; clear hb x4 tn
  go_loopw [3] (fun i wr => ∃ j : Nat, j ≤ nx.length ∧ i = .int .i64 j ∧ Hid (validM t a p ac nx = allF (actM p) nx j) ∧ Hid (Below w.heap.size w wr)) (fun i _ => nx.length - (intOf i).toNat)
  case atStart => exact ⟨0, Nat.zero_le _, rfl, HD, HB3⟩
  case round =>
    obtain ⟨j, hj, rfl, hq, hB'⟩ := hrel
    clear HD HB3
    by_cases hjn : j < nx.length
    · obtain ⟨yB, zB, _, rfl, hatB⟩ := HB.out (by rintro rfl; simp at hjn)
      obtain ⟨Bj, Dj, cB, hRows⟩ := hatB j nx[j] (List.getElem?_eq_getElem hjn)
      have hst := allF_step (actM p) nx hjn
      have hfr := HF.out nx[j] (List.getElem_mem hjn)
      obtain ⟨rows, hr⟩ : ∃ rows, rows = nx[j] := ⟨_, rfl⟩
      rw [← hr] at cB hRows hst hfr
      have hb := hB'.out
      have x2 := kc hb g2; have x4 := kc hb g4; have xB := kc hb cB
      have HAT := Lib.hid hatB; have HR := Lib.hid hr; have HROWS := Lib.hid hRows; have HFR := Lib.hid hfr; have HCB := Lib.hid cB
      have HST : Hid (validM t a p ac nx = (actM p rows && allF (actM p) nx (j + 1))) := hq.out.trans hst
      have j0 : (0 : Int) ≤ (j : Int) := Int.natCast_nonneg _
      have j1 : (j : Int) < (nx.length : Int) := by omega
      have hrl := hfr.1
      clear hatB hr hst hq hRows hfr cB
      by_cases hrp : (rows.length : Int) = p
      case neg =>
        have tb : ((rows.length : Int) != p) = true := by rw [bne_iff_ne]; exact hrp
        have HE : Hid (validM t a p ac nx = false) := by show _ = _; rw [HST.out]; unfold actM; rw [isRow_neg hrp]; rfl
        clear hrp
        go_wp2_with fail
        go_region_held3 (fun w' => Sees w w' ∧ w'.cell? ⟨b, 2, none⟩ = some (.int .i64 p) ∧ w'.cell? ⟨b, 4, none⟩ = some (.slice (some ⟨yB, zB, none⟩) nx.length D) ∧ w'.cell? ⟨yB, zB + j, none⟩ = some (.slice Bj rows.length Dj) ∧ True) (first | exact ⟨Sees.drew hb, x2, x4, xB, trivial⟩ | (go_keep; done)) (fail)
        go_wp2_with fail
        go_ret
        exact ⟨ret_bool HE.out.symm, Below.drew hb⟩
      have tb : ((rows.length : Int) != p) = false := by simp [hrp]
      have HE : Hid (validM t a p ac nx = (allF (isRow p) rows 0 && allF (actM p) nx (j + 1))) := by
        show _ = _
        rw [HST.out]
        unfold actM
        rw [isRow_pos hrp, allF_zero]
        rfl
      have HRP := Lib.hid hrp
      clear hrp HST
      go_wp2_with fail
      go_region_held3 (fun w' => Sees w w' ∧ w'.cell? ⟨b, 2, none⟩ = some (.int .i64 p) ∧ w'.cell? ⟨b, 4, none⟩ = some (.slice (some ⟨yB, zB, none⟩) nx.length D) ∧ w'.cell? ⟨yB, zB + j, none⟩ = some (.slice Bj rows.length Dj) ∧ True) (first | exact ⟨Sees.drew hb, x2, x4, xB, trivial⟩ | (go_keep; done)) (fail)
      have HB4 : Hid (Below w.heap.size w wr.drew) := Below.drew hb
      clear hb x2 x4 xB tb hB'
      go_wp2_with fail
      go_loopw [4] (fun i wr => ∃ k : Nat, k ≤ rows.length ∧ i = .int .i64 k ∧ Hid (validM t a p ac nx = (allF (isRow p) rows k && allF (actM p) nx (j + 1))) ∧ Hid (Below w.heap.size w wr)) (fun i _ => rows.length - (intOf i).toNat)
      case atStart => exact ⟨0, Nat.zero_le _, rfl, HE, HB4⟩
      case round =>
        obtain ⟨k, hk, rfl, hq, hB'⟩ := hrel
        clear HE HB4
        have hb := hB'.out
        have x2 := kc hb g2; have x4 := kc hb g4; have xB := kc hb HCB.out
        by_cases hkl : k < rows.length
        · obtain ⟨yR, zR, _, rfl, hatR⟩ := HROWS.out (by rintro rfl; simp at hkl)
          obtain ⟨Bk, Dk, cR, hRow⟩ := hatR k rows[k] (List.getElem?_eq_getElem hkl)
          have hst := allF_step (isRow p) rows hkl
          have hfr := HFR.out.2 rows[k] (List.getElem_mem hkl)
          obtain ⟨row, hrow⟩ : ∃ row, row = rows[k] := ⟨_, rfl⟩
          rw [← hrow] at cR hRow hst hfr
          have xR := kc hb cR
          have HAT2 := Lib.hid hatR; have HRW := Lib.hid hrow; have HROW := Lib.hid hRow; have HCR := Lib.hid cR
          have HST : Hid (validM t a p ac nx = (isRow p row && (allF (isRow p) rows (k + 1) && allF (actM p) nx (j + 1)))) := by
            show _ = _
            rw [hq.out, hst, Bool.and_assoc]
          have k0 : (0 : Int) ≤ (k : Int) := Int.natCast_nonneg _
          have k1 : (k : Int) < (rows.length : Int) := by omega
          clear hatR hrow hst hq hRow cR
          by_cases hrp : (row.length : Int) = p
          case neg =>
            have tb : ((row.length : Int) != p) = true := by rw [bne_iff_ne]; exact hrp
            have HE : Hid (validM t a p ac nx = false) := by show _ = _; rw [HST.out]; rw [isRow_neg hrp]; rfl
            clear hrp
            go_wp2_with fail
            go_region_held3 (fun w' => Sees w w' ∧ w'.cell? ⟨b, 2, none⟩ = some (.int .i64 p) ∧ w'.cell? ⟨b, 4, none⟩ = some (.slice (some ⟨yB, zB, none⟩) nx.length D) ∧ w'.cell? ⟨yB, zB + j, none⟩ = some (.slice (some ⟨yR, zR, none⟩) rows.length Dj) ∧ w'.cell? ⟨yR, zR + k, none⟩ = some (.slice Bk row.length Dk) ∧ True) (first | exact ⟨Sees.drew hb, x2, x4, xB, xR, trivial⟩ | (go_keep; done)) (fail)
            go_wp2_with fail
            go_ret
            exact ⟨ret_bool HE.out.symm, Below.drew hb⟩
          have tb : ((row.length : Int) != p) = false := by simp [hrp]
          have HE : Hid (validM t a p ac nx = ((allF (isRow p) rows (k + 1) && allF (actM p) nx (j + 1)))) := by
            show _ = _
            rw [HST.out]
            skip
            rw [isRow_pos hrp]
            rfl
          clear hrp HST
          go_wp2_with fail
          go_region_held3 (fun w' => Sees w w' ∧ w'.cell? ⟨b, 2, none⟩ = some (.int .i64 p) ∧ w'.cell? ⟨b, 4, none⟩ = some (.slice (some ⟨yB, zB, none⟩) nx.length D) ∧ w'.cell? ⟨yB, zB + j, none⟩ = some (.slice (some ⟨yR, zR, none⟩) rows.length Dj) ∧ w'.cell? ⟨yR, zR + k, none⟩ = some (.slice Bk row.length Dk) ∧ True) (first | exact ⟨Sees.drew hb, x2, x4, xB, xR, trivial⟩ | (go_keep; done)) (fail)
          have HB5 : Hid (Below w.heap.size w wr.drew) := Below.drew hb
          clear hb x2 x4 xB xR tb hB'
          go_wp2_with fail
          go_roundw
          case rel => exact ⟨k + 1, by omega, by go_num, HE, HB5⟩
          case measure => simp [intOf]; omega
        · obtain rfl : k = rows.length := by omega
          have HE : Hid (validM t a p ac nx = allF (actM p) nx (j + 1)) := by show _ = _; rw [hq.out, allF_end]; rfl
          clear hq
          go_wp2_with fail
          go_roundw
          case rel => exact ⟨j + 1, by omega, by go_num, HE, hB'⟩
          case measure => simp [intOf]; omega
    · obtain rfl : j = nx.length := by omega
      have HE : Hid (validM t a p ac nx = true) := by show _ = _; rw [hq.out, allF_end]
      have hb := hB'.out
      have x4 := kc hb g4
      clear hq
      go_wp2_with fail
      go_ret
      exact ⟨ret_bool HE.out.symm, hb⟩

end Go.Proofs.Ytmblgkpgfofceaa

namespace Go.Proofs.Ytmblgkpgfofceaa
open Go.RowKit
set_option linter.unusedVariables false

set_option maxHeartbeats 4000000 in
set_option maxRecDepth 100000 in
theorem specRenumberModel_no (t a p : Int) (ac : List (List Bool)) (nx : List (List (List Bool))) (xs : List Int) (hs : SmallM ac nx) (hx : xs.length ≤ 1048576) (hv : validM t a p ac nx = false) (A B P : Option Addr) (C D PC : Nat) (w : World) (hA0 : BB 0 w ac A) (hB0 : BBB 0 w nx B) (hP0 : Ints w xs P) :
    Calls Try.prog 44 #[.agg #[.int .i64 t, .int .i64 a, .int .i64 p, .slice A ac.length C, .slice B nx.length D], .slice P xs.length PC] w (MEnd 0 0 0 [] [] 1 w) := by
  obtain ⟨w0, hw0⟩ : ∃ w0, w0 = (w.alloc (.cells #[.int .i64 t, .int .i64 a, .int .i64 p, .slice A ac.length C, .slice B nx.length D] 63)).alloc (.cells #[.int .i64 0, .int .i64 0, .int .i64 0, .slice none 0 0, .slice none 0 0] 63) := ⟨_, rfl⟩
  have B0 : Sees w w0 := by rw [hw0]; exact ((Sees.refl w).alloc _).alloc _
  have hA := hA0.sees B0; have hB := hB0.sees B0; have hP : Ints w0 xs P := hP0.sees B0
  have hc0 : w0.heap[w.heap.size]? = some (.cells #[.int .i64 t, .int .i64 a, .int .i64 p, .slice A ac.length C, .slice B nx.length D] 63 (0, 0)) := by
    rw [hw0]; exact (Below.heap_alloc _ _ _ (by simp)).trans (heap_new _ _ _ rfl)
  have hr0 : w0.heap[w.heap.size + 1]? = some (.cells #[.int .i64 0, .int .i64 0, .int .i64 0, .slice none 0 0, .slice none 0 0] 63 (0, 0)) := by
    rw [hw0]; exact heap_new _ _ _ (by simp)
  have z0 : w.heap.size + 2 ≤ w0.heap.size := by rw [hw0]; simp
  have K1 : Hid (∀ W : World, Sees w0 W → Calls Try.prog 73 #[.pointer (some ⟨w.heap.size, 0, none⟩)] W fun e w' => e = .returned (.bool false) ∧ Below W.heap.size W w') := fun W h => by
    obtain ⟨g0, g1, g2, g3, g4, _, _, _, _, _⟩ := five_facts ((h.block _ (by omega)).trans hc0)
    rw [← hv]; exact l05Ok_any t a p ac nx hs A B C D _ W (hA.sees h) (hB.sees h) g0 g1 g2 g3 g4
  have HC0 := Lib.hid hc0; have HR0 := Lib.hid hr0
  have FIN : Hid (∀ W : World, Below w0.heap.size w0 W → Sees w W) := fun W h => B0.below h
  clear hA hB hP hA0 hB0 hP0 hv hs B0 hc0 hr0
  go_enter Try.func44, Try.ntmps44
  have HW0 := Lib.hid hw0
  go_wp2_with fail
  rw [← hw0]
  clear hw0
  refine (K1.out _ (Sees.refl _)).mono ?_
  rintro e w1 ⟨rfl, hb⟩
  have HB1 := Lib.hid hb
  have HR1 := Lib.hid ((hb.block _ (by omega)).trans HR0.out)
  have HC1 := Lib.hid ((hb.block _ (by omega)).trans HC0.out)
  have z1 : w.heap.size + 1 < w1.heap.size := Nat.lt_of_lt_of_le (by omega) hb.size
  clear hb K1
  obtain ⟨u0, u1, u2, u3, u4, x0, x1, x2, x3, x4⟩ := five_facts HR1.out
  go_wp2_with fail
  obtain ⟨y0, y1, y2, y3, y4, _, _, _, _, _⟩ := five_facts (five_block HR1.out (.int .i64 0) (.int .i64 0) (.int .i64 0) (.slice none 0 0) (.slice none 0 0))
  refine bodyPost_ret (v := .tuple #[.agg #[.int .i64 0, .int .i64 0, .int .i64 0, .slice none 0 0, .slice none 0 0], .int .i64 1]) (by simp [results, Try.results44, go_sem, y0, y1, y2, y3, y4]) rfl ?_
  exact MEnd.no (five_below (FIN.out _ HB1.out) (by omega) _ _ _ _ _)
set_option maxHeartbeats 4000000 in
set_option maxRecDepth 100000 in
theorem specRenumberModel_len (t a p : Int) (ac : List (List Bool)) (nx : List (List (List Bool))) (xs : List Int) (hs : SmallM ac nx) (hx : xs.length ≤ 1048576) (hv : validM t a p ac nx = true) (hlen : (xs.length : Int) ≠ p) (A B P : Option Addr) (C D PC : Nat) (w : World) (hA0 : BB 0 w ac A) (hB0 : BBB 0 w nx B) (hP0 : Ints w xs P) :
    Calls Try.prog 44 #[.agg #[.int .i64 t, .int .i64 a, .int .i64 p, .slice A ac.length C, .slice B nx.length D], .slice P xs.length PC] w (MEnd 0 0 0 [] [] 2 w) := by
  obtain ⟨w0, hw0⟩ : ∃ w0, w0 = (w.alloc (.cells #[.int .i64 t, .int .i64 a, .int .i64 p, .slice A ac.length C, .slice B nx.length D] 63)).alloc (.cells #[.int .i64 0, .int .i64 0, .int .i64 0, .slice none 0 0, .slice none 0 0] 63) := ⟨_, rfl⟩
  have B0 : Sees w w0 := by rw [hw0]; exact ((Sees.refl w).alloc _).alloc _
  have hA := hA0.sees B0; have hB := hB0.sees B0; have hP : Ints w0 xs P := hP0.sees B0
  have hc0 : w0.heap[w.heap.size]? = some (.cells #[.int .i64 t, .int .i64 a, .int .i64 p, .slice A ac.length C, .slice B nx.length D] 63 (0, 0)) := by
    rw [hw0]; exact (Below.heap_alloc _ _ _ (by simp)).trans (heap_new _ _ _ rfl)
  have hr0 : w0.heap[w.heap.size + 1]? = some (.cells #[.int .i64 0, .int .i64 0, .int .i64 0, .slice none 0 0, .slice none 0 0] 63 (0, 0)) := by
    rw [hw0]; exact heap_new _ _ _ (by simp)
  have z0 : w.heap.size + 2 ≤ w0.heap.size := by rw [hw0]; simp
  have K1 : Hid (∀ W : World, Sees w0 W → Calls Try.prog 73 #[.pointer (some ⟨w.heap.size, 0, none⟩)] W fun e w' => e = .returned (.bool true) ∧ Below W.heap.size W w') := fun W h => by
    obtain ⟨g0, g1, g2, g3, g4, _, _, _, _, _⟩ := five_facts ((h.block _ (by omega)).trans hc0)
    rw [← hv]; exact l05Ok_any t a p ac nx hs A B C D _ W (hA.sees h) (hB.sees h) g0 g1 g2 g3 g4
  have tl : (((xs.length : Nat) : Int) != p) = true := by simpa using hlen
  have te : decide (((xs.length : Nat) : Int) = p) = false := decide_eq_false hlen
  clear hlen
  have HC0 := Lib.hid hc0; have HR0 := Lib.hid hr0
  have FIN : Hid (∀ W : World, Below w0.heap.size w0 W → Sees w W) := fun W h => B0.below h
  clear hA hB hP hA0 hB0 hP0 hv hs B0 hc0 hr0
  go_enter Try.func44, Try.ntmps44
  have HW0 := Lib.hid hw0
  go_wp2_with fail
  rw [← hw0]
  clear hw0
  refine (K1.out _ (Sees.refl _)).mono ?_
  rintro e w1 ⟨rfl, hb⟩
  have HB1 := Lib.hid hb
  have HR1 := Lib.hid ((hb.block _ (by omega)).trans HR0.out)
  have HC1 := Lib.hid ((hb.block _ (by omega)).trans HC0.out)
  have z1 : w.heap.size + 1 < w1.heap.size := Nat.lt_of_lt_of_le (by omega) hb.size
  clear hb K1
  obtain ⟨c0, c1, c2, c3, c4, _, _, _, _, _⟩ := five_facts HC1.out
  obtain ⟨u0, u1, u2, u3, u4, x0, x1, x2, x3, x4⟩ := five_facts HR1.out
  go_wp2_with fail
  obtain ⟨y0, y1, y2, y3, y4, _, _, _, _, _⟩ := five_facts (five_block HR1.out (.int .i64 0) (.int .i64 0) (.int .i64 0) (.slice none 0 0) (.slice none 0 0))
  refine bodyPost_ret (v := .tuple #[.agg #[.int .i64 0, .int .i64 0, .int .i64 0, .slice none 0 0, .slice none 0 0], .int .i64 2]) (by simp [results, Try.results44, go_sem, y0, y1, y2, y3, y4]) rfl ?_
  exact MEnd.no (five_below (FIN.out _ HB1.out) (by omega) _ _ _ _ _)
set_option maxHeartbeats 4000000 in
set_option maxRecDepth 100000 in
theorem specRenumberModel_run (t a p : Nat) (ac : List (List Bool)) (nx : List (List (List Bool))) (xs : List Int) (hs : SmallM ac nx) (hx : xs.length ≤ 1048576) (hv : validM t a p ac nx = true) (hlen : (xs.length : Int) = p) (A B P : Option Addr) (C D PC : Nat) (w : World) (hA0 : BB 0 w ac A) (hB0 : BBB 0 w nx B) (hP0 : Ints w xs P) :
    Calls Try.prog 44 #[.agg #[.int .i64 (t : Int), .int .i64 (a : Int), .int .i64 (p : Int), .slice A ac.length C, .slice B nx.length D], .slice P xs.length PC] w (NEnd t a p ac nx xs w) := by
  obtain ⟨_, _, _, _, hp1, hp8, _, _, _, _⟩ := validM_bd hv
  have OKR : Hid (rnB p xs = true → RsOk t a p xs ac nx) := fun hr => rnOk_of hv hlen hr
  have YES : Hid (∀ (e : Ending) (w' : World), rnB p xs = true → MEnd t a xs.length (rsT t xs ac) (rsA xs nx) 0 w e w' → NEnd t a p ac nx xs w e w') := fun e w' hr h => NEnd.yes hv hlen hr h
  have BAD : Hid (∀ (e : Ending) (w' : World), rnB p xs = false → MEnd 0 0 0 [] [] 2 w e w' → NEnd t a p ac nx xs w e w') := fun e w' hr h => NEnd.bad hv (by rw [hr, Bool.and_false]) h
  obtain ⟨w0, hw0⟩ : ∃ w0, w0 = (w.alloc (.cells #[.int .i64 (t : Int), .int .i64 (a : Int), .int .i64 (p : Int), .slice A ac.length C, .slice B nx.length D] 63)).alloc (.cells #[.int .i64 0, .int .i64 0, .int .i64 0, .slice none 0 0, .slice none 0 0] 63) := ⟨_, rfl⟩
  have B0 : Sees w w0 := by rw [hw0]; exact ((Sees.refl w).alloc _).alloc _
  have hA := hA0.sees B0; have hB := hB0.sees B0; have hP : Ints w0 xs P := hP0.sees B0
  have hc0 : w0.heap[w.heap.size]? = some (.cells #[.int .i64 (t : Int), .int .i64 (a : Int), .int .i64 (p : Int), .slice A ac.length C, .slice B nx.length D] 63 (0, 0)) := by
    rw [hw0]; exact (Below.heap_alloc _ _ _ (by simp)).trans (heap_new _ _ _ rfl)
  have hr0 : w0.heap[w.heap.size + 1]? = some (.cells #[.int .i64 0, .int .i64 0, .int .i64 0, .slice none 0 0, .slice none 0 0] 63 (0, 0)) := by
    rw [hw0]; exact heap_new _ _ _ (by simp)
  have z0 : w.heap.size + 2 ≤ w0.heap.size := by rw [hw0]; simp
  have K1 : Hid (∀ W : World, Sees w0 W → Calls Try.prog 73 #[.pointer (some ⟨w.heap.size, 0, none⟩)] W fun e w' => e = .returned (.bool true) ∧ Below W.heap.size W w') := fun W h => by
    obtain ⟨g0, g1, g2, g3, g4, _, _, _, _, _⟩ := five_facts ((h.block _ (by omega)).trans hc0)
    rw [← hv]; exact l05Ok_any t a p ac nx hs A B C D _ W (hA.sees h) (hB.sees h) g0 g1 g2 g3 g4
  have KH : Hid (∀ (n : Int) (W : World), Sees w0 W → Calls Try.prog 98 #[.slice P xs.length PC, .int .i64 n] W fun e w' => e = .returned (.bool (hasB xs n)) ∧ Below W.heap.size W w') := fun n W h => l05Has_any xs hx n P PC W (hP.sees h)
  obtain ⟨ts, hts0⟩ : ∃ ts, ts = rsT t xs ac := ⟨_, rfl⟩
  obtain ⟨acts, hacts0⟩ : ∃ acts, acts = rsA xs nx := ⟨_, rfl⟩
  have K3 : Hid (rnB p xs = true → ∀ W : World, Sees w0 W → Calls Try.prog 75 #[.pointer (some ⟨w.heap.size, 0, none⟩), .slice P xs.length PC] W (MRet t a xs.length ts acts W)) := fun hr W h => by
    obtain ⟨g0, g1, g2, g3, g4, _, _, _, _, _⟩ := five_facts ((h.block _ (by omega)).trans hc0)
    rw [hts0, hacts0]; exact l05Pick_any t a p xs ac nx (OKR.out hr) A B P C D PC _ W (hA.sees h) (hB.sees h) (hP.sees h) g0 g1 g3 g4
  rw [← hts0, ← hacts0] at YES
  clear hts0 hacts0 OKR
  have tl : (((xs.length : Nat) : Int) != (p : Int)) = false := by simpa using hlen
  have te : decide (((xs.length : Nat) : Int) = (p : Int)) = true := decide_eq_true hlen
  have HLEN := Lib.hid hlen
  have hN0 : Hid ((List.range 0).all (fun x => hasB xs (x : Int)) = true) := rfl
  clear hlen
  have HC0 := Lib.hid hc0; have HR0 := Lib.hid hr0
  have FIN : Hid (∀ W : World, Below w0.heap.size w0 W → Sees w W) := fun W h => B0.below h
  clear hA hB hP hA0 hB0 hP0 hv hs B0 hc0 hr0
  go_enter Try.func44, Try.ntmps44
  have HW0 := Lib.hid hw0
  go_wp2_with fail
  rw [← hw0]
  clear hw0
  refine (K1.out _ (Sees.refl _)).mono ?_
  rintro e w1 ⟨rfl, hb⟩
  have HB1 := Lib.hid hb
  have HR1 := Lib.hid ((hb.block _ (by omega)).trans HR0.out)
  have HC1 := Lib.hid ((hb.block _ (by omega)).trans HC0.out)
  have z1 : w.heap.size + 1 < w1.heap.size := Nat.lt_of_lt_of_le (by omega) hb.size
  clear hb K1
  obtain ⟨c0, c1, c2, c3, c4, _, _, _, _, _⟩ := five_facts HC1.out
  have HBS : Hid (Sees w0 w1) := HB1.out
  have HP8 := Lib.hid hp8
  go_wp2_with fail
  clear c0 c1 c2 c3 c4
  go_loopw [6] (fun i wr => ∃ j : Nat, j ≤ p ∧ i = .int .i64 j ∧ Hid ((List.range j).all (fun x => hasB xs (x : Int)) = true) ∧ Hid (Sees w0 wr)) (fun i _ => p - (intOf i).toNat)
  case atStart => exact ⟨0, Nat.zero_le _, rfl, hN0, HBS.out⟩
  case round =>
    obtain ⟨j, hj, rfl, hA, hb⟩ := hrel
    clear hN0 HB1 HR1 HC1 HBS z1
    have HC1 := Lib.hid ((hb.out.block _ (by omega)).trans HC0.out)
    have HR1 := Lib.hid ((hb.out.block _ (by omega)).trans HR0.out)
    have zr : w.heap.size + 1 < wr.heap.size := Nat.lt_of_lt_of_le (by omega) hb.out.size
    by_cases hjl : j < p
    · obtain ⟨c0, c1, c2, c3, c4, _, _, _, _, _⟩ := five_facts HC1.out
      have hjm := Lib.hid hjl
      have tj : decide ((j : Int) < (p : Int)) = true := decide_eq_true (by omega)
      have hp8' := HP8.out
      obtain ⟨q, hq⟩ : ∃ q : Bool, q = hasB xs (j : Int) := ⟨_, rfl⟩
      have KJ : Hid (Calls Try.prog 98 #[.slice P xs.length PC, .int .i64 (j : Int)] wr fun e w' => e = .returned (.bool q) ∧ Below wr.heap.size wr w') := by rw [hq]; exact KH.out _ _ hb.out
      have HQ := Lib.hid hq
      clear hq
      cases q
      · go_wp2_with fail
        refine KJ.out.mono ?_
        rintro e w2 ⟨rfl, hb2⟩
        have HB2 := Lib.hid (Sees.below hb.out hb2)
        have HR2 := Lib.hid ((hb2.block _ (by omega)).trans HR1.out)
        clear hb2 c0 c1 c2 c3 c4
        obtain ⟨u0, u1, u2, u3, u4, x0, x1, x2, x3, x4⟩ := five_facts HR2.out
        go_wp2_with fail
        obtain ⟨y0, y1, y2, y3, y4, _, _, _, _, _⟩ := five_facts (five_block HR2.out (.int .i64 0) (.int .i64 0) (.int .i64 0) (.slice none 0 0) (.slice none 0 0))
        refine bodyPost_ret (v := .tuple #[.agg #[.int .i64 0, .int .i64 0, .int .i64 0, .slice none 0 0, .slice none 0 0], .int .i64 2]) (by simp [results, Try.results44, go_sem, y0, y1, y2, y3, y4]) rfl ?_
        exact BAD.out _ _ (rn_no (by have := hjm.out; omega) HQ.out.symm) (MEnd.no (five_below (FIN.out _ HB2.out) (by omega) _ _ _ _ _))
      · go_wp2_with fail
        refine KJ.out.mono ?_
        rintro e w2 ⟨rfl, hb2⟩
        have HB2 := Lib.hid (Sees.below hb.out hb2)
        clear hb2 c0 c1 c2 c3 c4
        go_wp2_with fail
        go_roundw
        case rel => exact ⟨j + 1, by have := hjm.out; omega, by go_num, rn_step hA.out HQ.out.symm, HB2⟩
        case measure => (have := hjm.out; simp [intOf]; try omega)
    · obtain rfl : j = p := by omega
      have HE : Hid (rnB (j : Int) xs = true) := by
        have := hA.out
        show rnB (j : Int) xs = true
        unfold rnB
        exact this
      obtain ⟨c0, c1, c2, c3, c4, _, _, _, _, _⟩ := five_facts HC1.out
      have K4 := Lib.hid (K3.out HE.out wr hb.out)
      clear hjl K3 KH
      go_wp2_with fail
      refine K4.out.mono ?_
      rintro e w3 ⟨A1, B1, C1, D1, m, rfl, hm1, hm2, hts, hacts, hb3⟩
      have HB3 := Lib.hid (Below.trans hb.out (hb3.mono hb.out.size))
      have HR3 := Lib.hid ((hb3.block _ (by omega)).trans HR1.out)
      have HT := Lib.hid hts; have HAc := Lib.hid hacts
      clear hb3 K4 hts hacts c0 c1 c2 c3 c4
      obtain ⟨u0, u1, u2, u3, u4, x0, x1, x2, x3, x4⟩ := five_facts HR3.out
      go_wp2_with fail
      obtain ⟨y0, y1, y2, y3, y4, _, _, _, _, _⟩ := five_facts (five_block HR3.out (.int .i64 (t : Int)) (.int .i64 (a : Int)) (.int .i64 (xs.length : Int)) (.slice A1 ts.length C1) (.slice B1 acts.length D1))
      refine bodyPost_ret (v := .tuple #[.agg #[.int .i64 (t : Int), .int .i64 (a : Int), .int .i64 (xs.length : Int), .slice A1 ts.length C1, .slice B1 acts.length D1], .int .i64 0]) (by simp [results, Try.results44, go_sem, y0, y1, y2, y3, y4]) rfl ?_
      exact YES.out _ _ HE.out (mend5 HT.out HAc.out (FIN.out _ HB3.out) (show w.heap.size ≤ w.heap.size + 1 by omega) (by omega) hm1 (Nat.le_refl _) hm2 (Nat.le_refl _) rfl rfl _ _ _ _ _)
theorem specRenumberModel_any (t a p : Int) (ac : List (List Bool)) (nx : List (List (List Bool))) (xs : List Int) (hs : SmallM ac nx) (hx : xs.length ≤ 1048576) (A B P : Option Addr) (C D PC : Nat) (w : World) (hA0 : BB 0 w ac A) (hB0 : BBB 0 w nx B) (hP0 : Ints w xs P) :
    Calls Try.prog 44 #[.agg #[.int .i64 t, .int .i64 a, .int .i64 p, .slice A ac.length C, .slice B nx.length D], .slice P xs.length PC] w (NEnd t a p ac nx xs w) := by
  by_cases hv : validM t a p ac nx = true
  · by_cases hl : (xs.length : Int) = p
    · obtain ⟨ht, _, ha0, _, hp, _⟩ := validM_bd hv
      obtain ⟨t, rfl⟩ := Int.eq_ofNat_of_zero_le ht
      obtain ⟨a, rfl⟩ := Int.eq_ofNat_of_zero_le ha0
      obtain ⟨p, rfl⟩ := Int.eq_ofNat_of_zero_le (show 0 ≤ p by omega)
      exact specRenumberModel_run t a p ac nx xs hs hx hv hl A B P C D PC w hA0 hB0 hP0
    · exact (specRenumberModel_len t a p ac nx xs hs hx hv hl A B P C D PC w hA0 hB0 hP0).mono fun e w' h => NEnd.bad hv (by rw [decide_eq_false hl, Bool.false_and]) h
  · have hv : validM t a p ac nx = false := by simpa using hv
    exact (specRenumberModel_no t a p ac nx xs hs hx hv A B P C D PC w hA0 hB0 hP0).mono fun e w' h => NEnd.no hv h
end Go.Proofs.Ytmblgkpgfofceaa
