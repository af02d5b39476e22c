/- Contracts of bits.Len64 and bits.Len at small numbers. Contracts of slices.pdqsortOrdered and slices.Sort at int64, at 12 or fewer. slices.Collect and slices.Sorted at int64, over slices.Values. RenumberModel: contract of the program's. -/
import Derived.Test.YtmblgkpgfofceaaInts
import Derived.Test.YtmblgkpgfofceaaRqe
import Derived.Test.YtmblgkpgfofceaaQuietC
import Derived.Test.YtmblgkpgfofceaaRqd
import Derived.Test.YtmblgkpgfofceaaRnF
import Derived.Test.YtmblgkpgfofceaaRqc
import Derived.Deep.RegionLaw
import Derived.Deep.DrawnRows
namespace Go.Proofs.Ytmblgkpgfofceaa
open Go.RowKit
set_option linter.unusedVariables false

set_option maxHeartbeats 4000000 in
set_option maxRecDepth 100000 in
theorem len64_any (n : Nat) (hn : n ≤ 12) (w : World) : Calls Try.prog 185 #[.int .u64 (n : Int)] w fun e w' => (∃ l : Int, e = .returned (.int .i64 l)) ∧ Below w.heap.size w w' := by
  rcases (show n = 0 ∨ n = 1 ∨ n = 2 ∨ n = 3 ∨ n = 4 ∨ n = 5 ∨ n = 6 ∨ n = 7 ∨ n = 8 ∨ n = 9 ∨ n = 10 ∨ n = 11 ∨ n = 12 by omega) with rfl | rfl | rfl | rfl | rfl | rfl | rfl | rfl | rfl | rfl | rfl | rfl | rfl
  all_goals
    go_enter Try.func185, Try.ntmps185
    go_wp2_with fail
    go_ret
    exact ⟨⟨_, rfl⟩, by go_grown⟩
set_option maxHeartbeats 4000000 in
set_option maxRecDepth 100000 in
theorem len_any (n : Nat) (hn : n ≤ 12) (w : World) : Calls Try.prog 164 #[.int .u64 (n : Int)] w fun e w' => (∃ l : Int, e = .returned (.int .i64 l)) ∧ Below w.heap.size w w' := by
  have K : Hid (∀ W : World, Calls Try.prog 185 #[.int .u64 (n : Int)] W fun e w' => (∃ l : Int, e = .returned (.int .i64 l)) ∧ Below W.heap.size W w') := fun W => len64_any n hn W
  have t1 : IntKind.u64.wrap (n : Int) = (n : Int) := by
    rcases (show n = 0 ∨ n = 1 ∨ n = 2 ∨ n = 3 ∨ n = 4 ∨ n = 5 ∨ n = 6 ∨ n = 7 ∨ n = 8 ∨ n = 9 ∨ n = 10 ∨ n = 11 ∨ n = 12 by omega) with rfl | rfl | rfl | rfl | rfl | rfl | rfl | rfl | rfl | rfl | rfl | rfl | rfl <;> rfl
  go_enter Try.func164, Try.ntmps164
  go_wp2_with fail
  refine (K.out _).mono ?_
  rintro e w1 ⟨⟨l, rfl⟩, hb⟩
  have HB := Lib.hid hb
  clear hb
  go_wp2_with fail
  go_ret
  exact ⟨⟨_, rfl⟩, HB.out⟩
end Go.Proofs.Ytmblgkpgfofceaa

namespace Go.Proofs.Ytmblgkpgfofceaa
open Go.RowKit
set_option linter.unusedVariables false

set_option maxHeartbeats 4000000 in
set_option maxRecDepth 100000 in
theorem pdq_any (xs : List Int) (hn : xs.length ≤ 12) (g C : Nat) (lim : Int) (w : World) (h : SRow 2 xs g w) :
    Calls Try.prog 163 #[.slice (some ⟨g, 0, none⟩) xs.length C, .int .i64 0, .int .i64 (xs.length : Int), .int .i64 lim] w fun e w' => e = .returned (.tuple #[]) ∧ ∃ ys : List Int, ys.Perm xs ∧ ys.Pairwise (· ≤ ·) ∧ SRow 2 ys g w' ∧ But g w.heap.size w w' := by
  have K := Lib.hid (insSort_any xs hn g C w h)
  obtain ⟨n, hnn⟩ : ∃ n, n = xs.length := ⟨_, rfl⟩
  rw [← hnn] at K hn ⊢
  clear hnn h
  have sb : IntKind.i64.wrap ((n : Int) - 0) = (n : Int) := by rw [Int.sub_zero]; exact IntWalk.i64_in _ (by omega)
  have sb2 : IntKind.i64.wrap (n : Int) = (n : Int) := IntWalk.i64_in _ (by omega)
  have t1 : decide ((n : Int) ≤ 12) = true := decide_eq_true (by omega)
  have t2 : decide (n ≤ 12) = true := decide_eq_true (by omega)
  go_enter Try.func163, Try.ntmps163
  go_wp2_with fail
  go_loopw [1, 2] (fun a b wr => a = .int .i64 0 ∧ b = .int .i64 (n : Int) ∧ Hid (wr = w)) (fun _ _ _ => 0)
  case atStart => exact ⟨rfl, rfl, rfl⟩
  case round =>
    obtain ⟨rfl, rfl, hw⟩ := hrel
    have hw := hw.out
    subst hw
    go_wp2_with fail
    refine K.out.mono ?_
    rintro e w1 ⟨rfl, hr⟩
    have HR := Lib.hid hr
    clear hr
    go_wp2_with fail
    refine bodyPost_ret (results_none (by rfl) _ _ _) rfl ?_
    exact ⟨rfl, HR.out⟩
set_option maxHeartbeats 4000000 in
set_option maxRecDepth 100000 in
theorem sort_any (xs : List Int) (hn : xs.length ≤ 12) (g C : Nat) (w : World) (h : SRow 2 xs g w) :
    Calls Try.prog 137 #[.slice (some ⟨g, 0, none⟩) xs.length C] w fun e w' => e = .returned (.tuple #[]) ∧ ∃ ys : List Int, ys.Perm xs ∧ ys.Pairwise (· ≤ ·) ∧ SRow 2 ys g w' ∧ But g w.heap.size w w' := by
  have H := Lib.hid h
  have KP : Hid (∀ (lim : Int) (W : World), Below w.heap.size w W → Calls Try.prog 163 #[.slice (some ⟨g, 0, none⟩) xs.length C, .int .i64 0, .int .i64 (xs.length : Int), .int .i64 lim] W fun e w' => e = .returned (.tuple #[]) ∧ ∃ ys : List Int, ys.Perm xs ∧ ys.Pairwise (· ≤ ·) ∧ SRow 2 ys g w' ∧ But g w.heap.size w w') := fun lim W hW =>
    (pdq_any xs hn g C lim W (h.keep (hW.block _ h.lt))).mono fun e w' ⟨he, ys, h1, h2, h3, h4⟩ => ⟨he, ys, h1, h2, h3, (But.of_below hW (Nat.le_refl _)).trans (h4.mono hW.size)⟩
  obtain ⟨n, hnn⟩ : ∃ n, n = xs.length := ⟨_, rfl⟩
  rw [← hnn] at KP hn ⊢
  have KL : Hid (∀ W : World, Calls Try.prog 164 #[.int .u64 (n : Int)] W fun e w' => (∃ l : Int, e = .returned (.int .i64 l)) ∧ Below W.heap.size W w') := fun W => len_any n hn W
  have t1 : IntKind.u64.wrap (n : Int) = (n : Int) := by
    rcases (show n = 0 ∨ n = 1 ∨ n = 2 ∨ n = 3 ∨ n = 4 ∨ n = 5 ∨ n = 6 ∨ n = 7 ∨ n = 8 ∨ n = 9 ∨ n = 10 ∨ n = 11 ∨ n = 12 by omega) with rfl | rfl | rfl | rfl | rfl | rfl | rfl | rfl | rfl | rfl | rfl | rfl | rfl <;> rfl
  clear hnn h
  go_enter Try.func137, Try.ntmps137
  go_wp2_with fail
  refine (KL.out _).mono ?_
  rintro e w1 ⟨⟨l, rfl⟩, hb⟩
  have HB := Lib.hid hb
  clear hb
  go_wp2_with fail
  refine (KP.out _ _ HB.out).mono ?_
  rintro e w2 ⟨rfl, hr⟩
  have HR := Lib.hid hr
  clear hr
  go_wp2_with fail
  go_end0
  exact ⟨rfl, HR.out⟩
end Go.Proofs.Ytmblgkpgfofceaa

namespace Go.Proofs.Ytmblgkpgfofceaa
open Go.RowKit
set_option linter.unusedVariables false

theorem srow_of {E : TypeId} {W : World} {lo : Nat} {v : Value} {zs : List Int} (h : W.ownsRow lo E 1 v zs.length (zs.map (Value.int .i64))) (hz : 0 < zs.length) : ∃ g cap, v = .slice (some ⟨g, 0, none⟩) zs.length cap ∧ lo ≤ g ∧ SRow E zs g W := by
  obtain ⟨h1, h2⟩ := h
  rcases h2 with ⟨_, h0⟩ | ⟨g, cap, cur, rfl, hb, hg, hn, _, hs, ht⟩
  · omega
  · have hl : zs.length ≤ cur.size := by
      have := congrArg List.length ht
      simp at this
      omega
    refine ⟨g, cap, rfl, hb, cur, hg, hl, fun i hi => ?_⟩
    have h5 : (zs.map (Value.int .i64))[i]? = some (.int .i64 (nth zs i)) := by rw [List.getElem?_map, List.getElem?_eq_getElem hi]; simp [nth, List.getD, hi]
    rw [← ht, List.getElem?_take, if_pos (by omega)] at h5
    rw [← Array.getElem?_toList]
    exact h5
theorem SRow.ints {E : TypeId} {zs : List Int} {g : Nat} {w : World} (h : SRow E zs g w) : Ints w zs (some ⟨g, 0, none⟩) := fun _ => ⟨g, 0, rfl, fun i hi => by rw [Nat.zero_add]; exact h.cell hi⟩

set_option maxHeartbeats 4000000 in
set_option maxRecDepth 100000 in
theorem collect_any (Bs : Nat) (zs : List Int) (A : Option Addr) (C : Nat) (hm : zs.length ≤ 1048576) (w : World) (hBlt : Bs < w.heap.size) (hBs : w.cell? ⟨Bs, 0, none⟩ = some (.slice A zs.length C)) (hI : Ints w zs A) :
    Calls Try.prog 136 #[.func (.func 138) #[] #[.pointer (some ⟨Bs, 0, none⟩)]] w fun e W' => ∃ v, e = .returned v ∧ W'.ownsRow w.heap.size 2 1 v zs.length (zs.map (Value.int .i64)) ∧ (v = .slice none 0 0 ↔ zs = []) ∧ Below w.heap.size w W' := by
  have K := Lib.hid ((callsIn_wide (n := 3)).1 (appendSeq_in Fence.wide 3 trivial trivial rfl (by omega) Bs zs A C hm w hBlt hBs hI))
  clear hBs hI
  go_enter Try.func136, Try.ntmps136
  go_wp2_with fail
  refine K.out.mono ?_
  rintro e w1 ⟨v, rfl, hr⟩
  have HR := Lib.hid hr
  clear hr
  go_wp2_with fail
  go_ret
  exact ⟨_, rfl, HR.out⟩
set_option maxHeartbeats 4000000 in
set_option maxRecDepth 100000 in
theorem sorted_any (Bs : Nat) (zs : List Int) (A : Option Addr) (C : Nat) (hz : 0 < zs.length) (hz12 : zs.length ≤ 12) (w : World) (hBlt : Bs < w.heap.size) (hBs : w.cell? ⟨Bs, 0, none⟩ = some (.slice A zs.length C)) (hI : Ints w zs A) :
    Calls Try.prog 99 #[.func (.func 138) #[] #[.pointer (some ⟨Bs, 0, none⟩)]] w fun e W' => (∃ (ys : List Int) (A' : Option Addr) (C' : Nat), e = .returned (.slice A' zs.length C') ∧ ys.Perm zs ∧ ys.Pairwise (· ≤ ·) ∧ Ints W' ys A') ∧ Below w.heap.size w W' := by
  have K := Lib.hid (collect_any Bs zs A C (by omega) w hBlt hBs hI)
  have HZ := Lib.hid hz; have HZ12 := Lib.hid hz12
  clear hBs hI hz hz12
  go_enter Try.func99, Try.ntmps99
  go_wp2_with fail
  refine K.out.mono ?_
  rintro e w1 ⟨v, rfl, hr, _, hb⟩
  obtain ⟨gg, cap, rfl, hlo, hS⟩ := srow_of hr HZ.out
  have KS := Lib.hid (sort_any zs HZ12.out gg cap w1 hS)
  have HB := Lib.hid hb; have HLO := Lib.hid hlo
  clear hr hb hlo hS K
  go_wp2_with fail
  refine KS.out.mono ?_
  rintro e w2 ⟨rfl, ys, hp, hso, hS2, hbut⟩
  have FIN : Hid (∃ (ys : List Int) (A' : Option Addr) (C' : Nat), Ending.returned (.slice (some ⟨gg, 0, none⟩) zs.length cap) = .returned (.slice A' zs.length C') ∧ ys.Perm zs ∧ ys.Pairwise (· ≤ ·) ∧ Ints w2 ys A') := ⟨ys, _, _, rfl, hp, hso, hS2.ints⟩
  have HB2 := Lib.hid (Below.trans HB.out (hbut.below HB.out.size HLO.out))
  clear hp hso hS2 hbut KS
  go_wp2_with fail
  go_ret
  exact ⟨FIN.out, HB2.out⟩
end Go.Proofs.Ytmblgkpgfofceaa

namespace Go.Proofs.Ytmblgkpgfofceaa
open Go.RowKit
set_option linter.unusedVariables false

set_option maxHeartbeats 4000000 in
set_option maxRecDepth 100000 in
theorem implRenumberModel_run (t a p : Nat) (ac : List (List Bool)) (nx : List (List (List Bool))) (xs : List Int) (hs : SmallM ac nx) (hx : xs.length ≤ 1048576) (hv : validM t a p ac nx = true) (hlen : (xs.length : Int) = p) (A B P : Option Addr) (C D PC : Nat) (w : World) (hA0 : BB 0 w ac A) (hB0 : BBB 0 w nx B) (hP0 : Ints w xs P) :
    Calls Try.prog 45 #[.agg #[.int .i64 (t : Int), .int .i64 (a : Int), .int .i64 (p : Int), .slice A ac.length C, .slice B nx.length D], .slice P xs.length PC] w (NEnd t a p ac nx xs w) := by
  obtain ⟨_, _, _, _, hp1, hp8, _, _, _, _⟩ := validM_bd hv
  have OKR : Hid (rnB p xs = true → RsOk t a p xs ac nx) := fun hr => rnOk_of hv hlen hr
  have YES : Hid (∀ (e : Ending) (w' : World), rnB p xs = true → MEnd t a xs.length (rsT t xs ac) (rsA xs nx) 0 w e w' → NEnd t a p ac nx xs w e w') := fun e w' hr h => NEnd.yes hv hlen hr h
  have BAD : Hid (∀ (e : Ending) (w' : World), rnB p xs = false → MEnd 0 0 0 [] [] 2 w e w' → NEnd t a p ac nx xs w e w') := fun e w' hr h => NEnd.bad hv (by rw [hr, Bool.and_false]) h
  obtain ⟨w0, hw0⟩ : ∃ w0, w0 = (w.alloc (.cells #[.int .i64 (t : Int), .int .i64 (a : Int), .int .i64 (p : Int), .slice A ac.length C, .slice B nx.length D] 63)).alloc (.cells #[.int .i64 0, .int .i64 0, .int .i64 0, .slice none 0 0, .slice none 0 0] 63) := ⟨_, rfl⟩
  have B0 : Sees w w0 := by rw [hw0]; exact ((Sees.refl w).alloc _).alloc _
  have hA := hA0.sees B0; have hB := hB0.sees B0; have hP : Ints w0 xs P := hP0.sees B0
  have hc0 : w0.heap[w.heap.size]? = some (.cells #[.int .i64 (t : Int), .int .i64 (a : Int), .int .i64 (p : Int), .slice A ac.length C, .slice B nx.length D] 63 (0, 0)) := by
    rw [hw0]; exact (Below.heap_alloc _ _ _ (by simp)).trans (heap_new _ _ _ rfl)
  have hr0 : w0.heap[w.heap.size + 1]? = some (.cells #[.int .i64 0, .int .i64 0, .int .i64 0, .slice none 0 0, .slice none 0 0] 63 (0, 0)) := by
    rw [hw0]; exact heap_new _ _ _ (by simp)
  have z0 : w.heap.size + 2 ≤ w0.heap.size := by rw [hw0]; simp
  have K1 : Hid (∀ W : World, Sees w0 W → Calls Try.prog 78 #[.agg #[.int .i64 (t : Int), .int .i64 (a : Int), .int .i64 (p : Int), .slice A ac.length C, .slice B nx.length D]] W fun e w' => e = .returned (.bool true) ∧ Below W.heap.size W w') := fun W h => by
    rw [← hv]; exact implValidModel_any t a p ac nx hs A B C D W (hA.sees h) (hB.sees h)
  obtain ⟨ts, hts0⟩ : ∃ ts, ts = rsT t xs ac := ⟨_, rfl⟩
  obtain ⟨acts, hacts0⟩ : ∃ acts, acts = rsA xs nx := ⟨_, rfl⟩
  obtain ⟨q, hq⟩ : ∃ q : Bool, q = rnB p xs := ⟨_, rfl⟩
  have KV : Hid (∀ W : World, Sees w0 W → Calls Try.prog 100 #[.slice P xs.length PC] W fun e w' => ∃ Bs, e = .returned (.func (.func 138) #[] #[.pointer (some ⟨Bs, 0, none⟩)]) ∧ Bs < w'.heap.size ∧ w'.cell? ⟨Bs, 0, none⟩ = some (.slice P xs.length PC) ∧ Sees w0 w') := fun W h =>
    (vals_any P xs.length PC W).mono fun e w' ⟨he, hw⟩ => ⟨W.heap.size, he, by rw [hw]; simp, by rw [hw]; exact Fo.cell_of_block (heap_new _ _ _ rfl) 0, by rw [hw]; exact h.alloc _⟩
  have KS : Hid (∀ (W : World) (Bs : Nat), Sees w0 W → Bs < W.heap.size → W.cell? ⟨Bs, 0, none⟩ = some (.slice P xs.length PC) → Calls Try.prog 99 #[.func (.func 138) #[] #[.pointer (some ⟨Bs, 0, none⟩)]] W fun e w' => (∃ (A' : Option Addr) (C' : Nat), e = .returned (.slice A' xs.length C') ∧ ∃ ys : List Int, ys.Perm xs ∧ ys.Pairwise (· ≤ ·) ∧ Ints w' ys A') ∧ Sees w0 w') := fun W Bs h h1 h2 =>
    (sorted_any Bs xs P PC (by omega) (by omega) W h1 h2 (hP.sees h)).mono fun e w' ⟨⟨ys, A', C', he, h3, h4, h5⟩, hb⟩ => ⟨⟨A', C', he, ys, h3, h4, h5⟩, Sees.below h hb⟩
  have KP : Hid (∀ (W : World) (A' : Option Addr) (C' : Nat), Sees w0 W → (∃ ys : List Int, ys.Perm xs ∧ ys.Pairwise (· ≤ ·) ∧ Ints W ys A') → Calls Try.prog 79 #[.slice A' xs.length C', .int .i64 (p : Int)] W fun e w' => (∃ s : Int, e = .returned (.tuple #[.int .u8 s, .bool q])) ∧ Sees w0 w') := fun W A' C' h ⟨ys, h1, h2, h3⟩ => by
    have hl : ys.length = xs.length := h1.length_eq
    rw [hq, ← asc_rn h1 h2 hlen, ← hl]
    exact (pointsIn_any p hp1 hp8 ys (by omega) A' C' W h3).mono fun e w' ⟨he, hb⟩ => ⟨he, Sees.below h hb⟩
  have K3 : Hid (rnB p xs = true → ∀ W : World, Sees w0 W → Calls Try.prog 80 #[.agg #[.int .i64 (t : Int), .int .i64 (a : Int), .int .i64 (p : Int), .slice A ac.length C, .slice B nx.length D], .slice P xs.length PC] W (MRet t a xs.length ts acts W)) := fun hr W h => by
    rw [hts0, hacts0]; exact chosen_any t a p xs ac nx (OKR.out hr) A B P C D PC W (hA.sees h) (hB.sees h) (hP.sees h)
  rw [← hts0, ← hacts0] at YES
  clear hts0 hacts0 OKR
  have tl : (((xs.length : Nat) : Int) != (p : Int)) = false := by simpa using hlen
  have te : decide (((xs.length : Nat) : Int) = (p : Int)) = true := decide_eq_true hlen
  have HLEN := Lib.hid hlen; have HQ := Lib.hid hq
  have C2 := Lib.hid (Fo.cell_of_block hc0 2)
  clear hlen hq
  have HC0 := Lib.hid hc0; have HR0 := Lib.hid hr0
  have FIN : Hid (∀ W : World, Below w0.heap.size w0 W → Sees w W) := fun W h => B0.below h
  clear hA hB hP hA0 hB0 hP0 hv hs B0 hc0 hr0
  go_enter Try.func45, Try.ntmps45
  obtain ⟨c0, c1, c2, c3, c4, _, _, _, _, _⟩ := five_facts HC0.out
  have HW0 := Lib.hid hw0
  go_wp2_with fail
  rw [← hw0]
  clear hw0
  refine (K1.out _ (Sees.refl _)).mono ?_
  rintro e w1 ⟨rfl, hb⟩
  have HB1 := Lib.hid hb
  have HR1 := Lib.hid ((hb.block _ (by omega)).trans HR0.out)
  have HC1 := Lib.hid ((hb.block _ (by omega)).trans HC0.out)
  have z1 : w.heap.size + 1 < w1.heap.size := Nat.lt_of_lt_of_le (by omega) hb.size
  clear hb K1 c0 c1 c2 c3 c4
  obtain ⟨c0, c1, c2, c3, c4, _, _, _, _, _⟩ := five_facts HC1.out
  have S1 : Hid (Sees w0 w1) := HB1.out
  go_wp2_with fail
  go_region_law (first
    | (go_simp; go_at_call 100; refine (KV.out _ ?_).mono ?_; (first | exact S1.out | exact S1.out.drew); rintro e v1 ⟨B1, rfl, hb1, hc1, hs1⟩; have V1S := Lib.hid hs1; have V1B := Lib.hid hb1; have V1C := Lib.hid hc1; have d2 := kc hs1 C2.out; clear hb1 hc1 hs1)
    | (go_simp; go_at_call 99; refine (KS.out _ _ V1S.out V1B.out V1C.out).mono ?_; rintro e v2 ⟨⟨A2, E2, rfl, hy2⟩, hs2⟩; have V2S := Lib.hid hs2; have V2Y := Lib.hid hy2; have e2 := kc hs2 C2.out; clear hy2 hs2)
    | (go_simp; go_at_call 79; refine (KP.out _ _ _ V2S.out V2Y.out).mono ?_; rintro e v3 ⟨⟨s, rfl⟩, hs3⟩; have V3S := Lib.hid hs3; clear hs3)
    | fail)
  all_goals
    have HB3 := V3S
    have HR3 := Lib.hid ((HB3.out.block _ (by omega)).trans HR0.out)
    have HC3 := Lib.hid ((HB3.out.block _ (by omega)).trans HC0.out)
    have z3 : w.heap.size + 1 < v3.heap.size := Nat.lt_of_lt_of_le (by omega) HB3.out.size
    clear c0 c1 c2 c3 c4 KV KS KP
    obtain ⟨c0, c1, c2, c3, c4, _, _, _, _, _⟩ := five_facts HC3.out
    obtain ⟨u0, u1, u2, u3, u4, x0, x1, x2, x3, x4⟩ := five_facts HR3.out
    cases q
    · go_wp2_with fail
      obtain ⟨y0, y1, y2, y3, y4, _, _, _, _, _⟩ := five_facts (five_block HR3.out (.int .i64 0) (.int .i64 0) (.int .i64 0) (.slice none 0 0) (.slice none 0 0))
      refine bodyPost_ret (v := .tuple #[.agg #[.int .i64 0, .int .i64 0, .int .i64 0, .slice none 0 0, .slice none 0 0], .int .i64 2]) (by simp [results, Try.results45, go_sem, y0, y1, y2, y3, y4]) rfl ?_
      exact BAD.out _ _ HQ.out.symm (MEnd.no (five_below (FIN.out _ HB3.out) (by omega) _ _ _ _ _))
    · have K4 := Lib.hid (K3.out HQ.out.symm v3 HB3.out)
      clear K3
      go_wp2_with fail
      refine K4.out.mono ?_
      rintro e w5 ⟨A1, B1, C1, D1, m, rfl, hm1, hm2, hts, hacts, hb5⟩
      have HB5 := Lib.hid (Below.trans HB3.out (hb5.mono HB3.out.size))
      have HR5 := Lib.hid ((hb5.block _ (by omega)).trans HR3.out)
      have HT := Lib.hid hts; have HAc := Lib.hid hacts
      clear hb5 K4 hts hacts c0 c1 c2 c3 c4 u0 u1 u2 u3 u4 x0 x1 x2 x3 x4
      obtain ⟨u0, u1, u2, u3, u4, x0, x1, x2, x3, x4⟩ := five_facts HR5.out
      go_wp2_with fail
      obtain ⟨y0, y1, y2, y3, y4, _, _, _, _, _⟩ := five_facts (five_block HR5.out (.int .i64 (t : Int)) (.int .i64 (a : Int)) (.int .i64 (xs.length : Int)) (.slice A1 ts.length C1) (.slice B1 acts.length D1))
      refine bodyPost_ret (v := .tuple #[.agg #[.int .i64 (t : Int), .int .i64 (a : Int), .int .i64 (xs.length : Int), .slice A1 ts.length C1, .slice B1 acts.length D1], .int .i64 0]) (by simp [results, Try.results45, go_sem, y0, y1, y2, y3, y4]) rfl ?_
      exact YES.out _ _ HQ.out.symm (mend5 HT.out HAc.out (FIN.out _ HB5.out) (show w.heap.size ≤ w.heap.size + 1 by omega) (by omega) hm1 (Nat.le_refl _) hm2 (Nat.le_refl _) rfl rfl _ _ _ _ _)
theorem implRenumberModel_any (t a p : Int) (ac : List (List Bool)) (nx : List (List (List Bool))) (xs : List Int) (hs : SmallM ac nx) (hx : xs.length ≤ 1048576) (A B P : Option Addr) (C D PC : Nat) (w : World) (hA0 : BB 0 w ac A) (hB0 : BBB 0 w nx B) (hP0 : Ints w xs P) :
    Calls Try.prog 45 #[.agg #[.int .i64 t, .int .i64 a, .int .i64 p, .slice A ac.length C, .slice B nx.length D], .slice P xs.length PC] w (NEnd t a p ac nx xs w) := by
  by_cases hv : validM t a p ac nx = true
  · by_cases hl : (xs.length : Int) = p
    · obtain ⟨ht, _, ha0, _, hp, _⟩ := validM_bd hv
      obtain ⟨t, rfl⟩ := Int.eq_ofNat_of_zero_le ht
      obtain ⟨a, rfl⟩ := Int.eq_ofNat_of_zero_le ha0
      obtain ⟨p, rfl⟩ := Int.eq_ofNat_of_zero_le (show 0 ≤ p by omega)
      exact implRenumberModel_run t a p ac nx xs hs hx hv hl A B P C D PC w hA0 hB0 hP0
    · exact (implRenumberModel_len t a p ac nx xs hs hx hv hl A B P C D PC w hA0 hB0 hP0).mono fun e w' h => NEnd.bad hv (by rw [decide_eq_false hl, Bool.false_and]) h
  · have hv : validM t a p ac nx = false := by simpa using hv
    exact (implRenumberModel_no t a p ac nx xs hs hx hv A B P C D PC w hA0 hB0 hP0).mono fun e w' h => NEnd.no hv h
end Go.Proofs.Ytmblgkpgfofceaa
