/- Contract of impl's counter's leading. -/
import Derived.Test.YtpigddjbiaoikaaCntM
namespace Go.Proofs.Ytpigddjbiaoikaa
open Go.RowKit

set_option maxHeartbeats 2000000 in
set_option maxRecDepth 100000 in
theorem leading_any {ac : List (List Bool)} {nx : List (List (List Int))} {lo k : Nat} (t a : Int) (A B P : Option Addr) (C D kk cap : Nat) (w : World) (hB : III 0 w nx B) (hT : Tab ac nx ac.length lo w k (.slice P kk cap)) (s n m : Nat) (hn : n = m + 1) (hm : m < k) (hs : s < nx.length) (h8 : nx[s].length ≤ 8)
    (hrows : ∀ row ∈ nx[s], row.length ≤ 4 ∧ ∀ v ∈ row, -1 ≤ v ∧ v < ac.length) (hL : n ≤ 10) :
    Calls Try.prog 71 #[.agg #[.int .i64 t, .int .i64 a, .slice A ac.length C, .slice B nx.length D, .slice P kk cap], .int .i64 s, .int .i64 n] w fun e w' => e = .returned (.int .i64 (cnt ac nx n s)) ∧ Below w.heap.size w w' := by
  obtain ⟨yB, zB, _, rfl, hat⟩ := hB (by rintro rfl; simp at hs)
  obtain ⟨R, E, c1, hQ⟩ := hat s nx[s] (List.getElem?_eq_getElem hs)
  have hst : Hid (cnt ac nx n s = ((nx[s]).drop 0).foldl (fun acc row => row.foldl (toAdd (cnt ac nx m)) acc) 0) := by
    show _ = _
    rw [hn]
    show (nx.getD s []).foldl _ 0 = _
    simp [List.getD, hs]
  obtain ⟨rows, hx⟩ : ∃ rows, rows = nx[s] := ⟨_, rfl⟩
  rw [← hx] at c1 hQ hst h8 hrows
  have hwm : IntKind.i64.wrap ((n : Int) - 1) = (m : Int) := by rw [IntWalk.i64_in _ (by omega)]; omega
  obtain ⟨w0, hw0⟩ : ∃ w0, Hid (w0 = w.alloc (.cells #[.int .i64 t, .int .i64 a, .slice A ac.length C, .slice (some ⟨yB, zB, none⟩) nx.length D, .slice P kk cap] 89)) := ⟨_, rfl⟩
  have B0 : Sees w w0 := by rw [hw0.out]; exact (Sees.refl w).alloc _
  have d1 := ka (.cells #[.int .i64 t, .int .i64 a, .slice A ac.length C, .slice (some ⟨yB, zB, none⟩) nx.length D, .slice P kk cap] 89) c1
  have HS : Hid (St w0 [(w.heap.size, 0, .int .i64 t), (w.heap.size, 1, .int .i64 a), (w.heap.size, 2, .slice A ac.length C), (w.heap.size, 3, .slice (some ⟨yB, zB, none⟩) nx.length D), (w.heap.size, 4, .slice P kk cap)] w0) :=
    ⟨Below.refl _ _, by rw [hw0.out]; exact ⟨(by simp [go_sem]), (by simp [go_sem]), (by simp [go_sem]), (by simp [go_sem]), (by simp [go_sem]), trivial⟩⟩
  have KW : Hid (∀ (W : World) (s' : Nat), Sees w0 W → s' < ac.length → Calls Try.prog 53 #[.agg #[.int .i64 t, .int .i64 a, .slice A ac.length C, .slice (some ⟨yB, zB, none⟩) nx.length D, .slice P kk cap], .int .i64 s', .int .i64 m] W fun e w' => e = .returned (.int .i64 (cnt ac nx m s')) ∧ Below W.heap.size W w') := fun W s' h hs' =>
    words_any t a A (some ⟨yB, zB, none⟩) P C D kk cap W (hT.below (Sees.below B0 h)) s' m hm hs'
  have s0 : (0 : Int) ≤ (s : Int) := Int.natCast_nonneg _
  have s1 : (s : Int) < (nx.length : Int) := by omega
  have HQ := Lib.hid (ii_ok.below hQ B0); have HX := Lib.hid hx; have HAT := Lib.hid hat; have HB0 := Lib.hid B0; have HROWS := Lib.hid hrows; have HN := Lib.hid hn
  clear c1 hQ hx hat hB B0 hT hrows hn
  go_enter Try.func71, Try.ntmps71
  go_wp2_with fail
  rw [← hw0.out]
  go_loopw [7, 19] (fun sum i wx => ∃ (y : Nat) (z : Int), y ≤ rows.length ∧ i = .int .i64 y ∧ sum = .int .i64 z ∧ Hid (cnt ac nx n s = (rows.drop y).foldl (fun acc row => row.foldl (toAdd (cnt ac nx m)) acc) z) ∧ Hid (St w0 [(w.heap.size, 0, .int .i64 t), (w.heap.size, 1, .int .i64 a), (w.heap.size, 2, .slice A ac.length C), (w.heap.size, 3, .slice (some ⟨yB, zB, none⟩) nx.length D), (w.heap.size, 4, .slice P kk cap)] wx)) (fun _ i _ => rows.length - (intOf i).toNat)
  case atStart => exact ⟨0, 0, Nat.zero_le _, rfl, rfl, hst, HS⟩
  case round =>
  obtain ⟨y, z, hy, rfl, rfl, hc, hS⟩ := hrel
  clear hst d1 HS
  by_cases hyl : y < rows.length
  · obtain ⟨yR, zR, _, rfl, hatR⟩ := HQ.out (by rintro rfl; simp at hyl)
    obtain ⟨R3, E3, c3, hQ3⟩ := hatR y rows[y] (List.getElem?_eq_getElem hyl)
    have hst := foldl_drop (fun acc row => row.foldl (toAdd (cnt ac nx m)) acc) rows z hyl
    obtain ⟨hr4, hrv⟩ := HROWS.out rows[y] (List.getElem_mem hyl)
    obtain ⟨row, hre⟩ : ∃ row, row = rows[y] := ⟨_, rfl⟩
    rw [← hre] at c3 hst hQ3 hr4 hrv
    have d3 := kc hS.out.1 c3
    have y0 : (0 : Int) ≤ (y : Int) := Int.natCast_nonneg _
    have y1 : (y : Int) < (rows.length : Int) := by omega
    have HRE := Lib.hid hre; have HATR := Lib.hid hatR; have HQ3 := Lib.hid hQ3; have HRV := Lib.hid hrv
    have hc1 : Hid (cnt ac nx n s = (rows.drop (y + 1)).foldl (fun acc row => row.foldl (toAdd (cnt ac nx m)) acc) (row.foldl (toAdd (cnt ac nx m)) z)) := hc.out.trans hst
    clear hre hatR hQ3 hrv hc hst c3
    go_wp2_with fail
    clear d3
    go_loopw [7, 25] (fun sm i wy => ∃ (c : Nat) (z2 : Int), c ≤ row.length ∧ i = .int .i64 c ∧ sm = .int .i64 z2 ∧ Hid (row.foldl (toAdd (cnt ac nx m)) z = (row.drop c).foldl (toAdd (cnt ac nx m)) z2) ∧ Hid (St w0 [(w.heap.size, 0, .int .i64 t), (w.heap.size, 1, .int .i64 a), (w.heap.size, 2, .slice A ac.length C), (w.heap.size, 3, .slice (some ⟨yB, zB, none⟩) nx.length D), (w.heap.size, 4, .slice P kk cap)] wy)) (fun _ i _ => row.length - (intOf i).toNat)
    case atStart => exact ⟨0, z, Nat.zero_le _, rfl, rfl, rfl, hS⟩
    case round =>
    obtain ⟨c, z2, hcl, rfl, rfl, hf, hS2⟩ := hrel
    clear hS
    by_cases hcr : c < row.length
    · obtain ⟨yv, zv, _, rfl, hatv⟩ := HQ3.out (by rintro rfl; simp at hcr)
      have cv := hatv c row[c] (List.getElem?_eq_getElem hcr)
      have hst := foldl_drop (toAdd (cnt ac nx m)) row z2 hcr
      have hvb := HRV.out row[c] (List.getElem_mem hcr)
      obtain ⟨v, hve⟩ : ∃ v, v = row[c] := ⟨_, rfl⟩
      rw [← hve] at cv hst hvb
      obtain ⟨sS, x0, x1, x2, x3, x4, _⟩ := hS2.out
      have d4 := kc sS cv
      have k0 : (0 : Int) ≤ (c : Int) := Int.natCast_nonneg _
      have k1 : (c : Int) < (row.length : Int) := by omega
      have HATV := Lib.hid hatv; have HVE := Lib.hid hve
      clear hatv hve cv
      by_cases hv0 : 0 ≤ v
      · obtain ⟨s', rfl⟩ := Int.eq_ofNat_of_zero_le hv0
        have hs' : s' < ac.length := by omega
        have t0 : decide ((0 : Int) ≤ (s' : Int)) = true := decide_eq_true hv0
        obtain ⟨cm, hcm⟩ : ∃ cm, Hid (cm = cnt ac nx m s') := ⟨_, rfl⟩
        have K : Hid (∀ W : World, Sees w0 W → Calls Try.prog 53 #[.agg #[.int .i64 t, .int .i64 a, .slice A ac.length C, .slice (some ⟨yB, zB, none⟩) nx.length D, .slice P kk cap], .int .i64 s', .int .i64 m] W fun e w' => e = .returned (.int .i64 cm) ∧ Below W.heap.size W w') := fun W h => by rw [hcm.out]; exact KW.out W s' h hs'
        have hf2 : Hid (row.foldl (toAdd (cnt ac nx m)) z = (row.drop (c + 1)).foldl (toAdd (cnt ac nx m)) (wrap64 (z2 + cm))) := by
          show _ = _
          rw [hf.out, hst, hcm.out]
          unfold toAdd
          rw [if_pos hv0]
          rfl
        clear hf hst hvb hv0
        go_wp2_with fail
        refine (K.out _ sS).mono ?_
        rintro e w3 ⟨rfl, hb⟩
        have S3 := Lib.hid (hS2.out.below hb)
        clear hb sS x0 x1 x2 x3 x4 d4 hS2
        go_wp2_with fail
        go_roundw
        case rel => exact ⟨c + 1, wrap64 (z2 + cm), by omega, by go_num, rfl, hf2, S3⟩
        case measure => simp [intOf]; omega
      · have t0 : decide ((0 : Int) ≤ v) = false := decide_eq_false hv0
        have hf2 : Hid (row.foldl (toAdd (cnt ac nx m)) z = (row.drop (c + 1)).foldl (toAdd (cnt ac nx m)) z2) := by
          show _ = _
          rw [hf.out, hst]
          unfold toAdd
          rw [if_neg hv0]
        clear hf hst hvb hv0
        go_wp2_with fail
        go_roundw
        case rel => exact ⟨c + 1, z2, by omega, by go_num, rfl, hf2, hS2⟩
        case measure => simp [intOf]; omega
    · obtain rfl : c = row.length := by omega
      have hz2 : Hid (row.foldl (toAdd (cnt ac nx m)) z = z2) := by show _ = _; rw [hf.out, List.drop_length]; rfl
      have hc2 : Hid (cnt ac nx n s = (rows.drop (y + 1)).foldl (fun acc row => row.foldl (toAdd (cnt ac nx m)) acc) z2) := by show _ = _; rw [hc1.out, hz2.out]
      clear hf hc1
      go_wp2_with fail
      go_roundw
      case rel => exact ⟨y + 1, z2, by omega, by go_num, rfl, hc2, hS2⟩
      case measure => simp [intOf]; omega
  · obtain rfl : y = rows.length := by omega
    have hz : Hid (cnt ac nx n s = z) := by show _ = _; rw [hc.out, List.drop_length]; rfl
    clear hc
    go_wp2_with fail
    go_ret
    exact ⟨ret_int hz.out.symm, Sees.below HB0.out hS.out.1⟩
end Go.Proofs.Ytpigddjbiaoikaa
