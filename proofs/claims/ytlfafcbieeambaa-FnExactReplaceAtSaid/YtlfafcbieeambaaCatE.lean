/- Contracts of slices.Grow at a nil slice, and slices.Concat of one list, at []Expr. -/
import Derived.Test.YtlfafcbieeambaaPutD
import Derived.Lib.AppendZeros
namespace Go.Proofs.Ytlfafcbieeambaa
open Go.RowKit

set_option maxHeartbeats 1000000 in
theorem growE_any (n : Nat) (h0 : 0 < n) (hn : n ≤ 1048576) (w : World) :
    Calls Try.prog 168 #[.slice none 0 0, .int .i64 n] w fun e w' => ∃ v, e = .returned v ∧ w'.ownsRow w.heap.size 31 3 v 0 [] ∧ Below w.heap.size w w' := by
  have hp : (0 : Int) < (n : Int) := by omega
  have hb : (n : Int) ≤ 4194304 := by omega
  obtain ⟨i, hi, hz, hs, hby⟩ := info_parts Try.infoX
  have hrun : Hid (∀ ty : TypeId, (Builtin.append_ #[29, 3] ty #[.slice none 0 0, .int .i64 n]).run Try.prog w = .ok (.slice (some ⟨w.heap.size, 0, none⟩) n (grownCap w n 0 31)) (w.drew.alloc (.cells (Builtin.zeroCells (Value.agg #[.int .i64 0, .int .i64 0, .slice none 0 0]).cells n ++ Builtin.zeroCells (Value.agg #[.int .i64 0, .int .i64 0, .slice none 0 0]).cells (grownCap w n 0 31 - n)) 31))) :=
    fun ty => Lib.run_append_nil_zeros w 29 3 ty 31 i _ .i64 .i64 Try.underlying29 Try.underlying3 hi hz n (by omega) (by rw [hs]; omega) (by omega) (by rw [hby]; omega)
  have hge := grownCap_ge w n 0 31
  have hle := grownCap_le_maxLen w n 0 31 (by unfold maxLen; omega)
  obtain ⟨cap, hcap⟩ : ∃ cap, cap = grownCap w n 0 31 := ⟨_, rfl⟩
  obtain ⟨cs, hcs⟩ : ∃ cs, cs = Builtin.zeroCells (Value.agg #[.int .i64 0, .int .i64 0, .slice none 0 0]).cells n ++ Builtin.zeroCells (Value.agg #[.int .i64 0, .int .i64 0, .slice none 0 0]).cells (cap - n) := ⟨_, rfl⟩
  rw [← hcap] at hrun hge hle
  rw [← hcs] at hrun
  have hsz : cs.size = cap * 3 := by
    rw [hcs]
    have e3 : (Value.agg #[.int .i64 0, .int .i64 0, .slice none 0 0]).cells = #[.int .i64 0, .int .i64 0, .slice none 0 0] := by simp [Value.cells]
    rw [e3]
    simp [Builtin.zeroCells]
    omega
  have HZ := Lib.hid hsz
  have HC : Hid ((w.drew.alloc (.cells cs 31)).ownsRow w.heap.size 31 3 (.slice (some ⟨w.heap.size, 0, none⟩) 0 cap) 0 []) := World.ownsRow_made w.drew cs cap (Nat.le_refl _) hle HZ.out
  clear hcs hcap hsz hle h0 hi hz hs hby
  have hge' : (0 : Int) ≤ (cap : Int) := by omega
  go_enter Try.func168, Try.ntmps168
  go_wp2_with (at_builtin; refine Lib.wpList_append_run _ rfl _ _ _ _ rfl _ _ rfl rfl _ _ (hrun.out _) ?_)
  go_ret
  exact ⟨_, rfl, HC.out, ((Below.refl _ _).drew).alloc (Nat.le_refl _) _⟩

/-- The cells of a row, as values. -/
def vals (w : World) (b o n : Nat) : List Value := (List.range n).map fun i => (w.cell? ⟨b, o + i, none⟩).getD .nilIface
theorem vals_len (w : World) (b o n : Nat) : (vals w b o n).length = n := by simp [vals]
theorem vals_get {w : World} {b o n : Nat} (h : ∀ i, i < n → ∃ u, w.cell? ⟨b, o + i, none⟩ = some u ∧ u.oneCell' = true) {j : Nat} {u : Value} (hu : (vals w b o n)[j]? = some u) : j < n ∧ w.cell? ⟨b, o + j, none⟩ = some u ∧ u.oneCell' = true := by
  obtain ⟨hj, he⟩ := List.getElem?_eq_some_iff.1 hu
  rw [vals_len] at hj
  obtain ⟨v, hv, h1⟩ := h j hj
  have : (vals w b o n)[j] = v := by simp [vals, hv]
  rw [he] at this
  subst this
  exact ⟨hj, hv, h1⟩
theorem Fo.At.some {w : World} {f : Fo} : ∀ {b o : Nat}, f.At w b o → ∀ i, i < f.len * 3 → ∃ u, w.cell? ⟨b, o + i, none⟩ = .some u ∧ u.oneCell' = true := by
  induction f with
  | nil => intro b o _ i hi; simp [Fo.len] at hi
  | cons k n ks r _ ihr =>
    intro b o ⟨h0, h1, ⟨A, C, h2, _⟩, h4⟩ i hi
    rcases i with _ | _ | _ | i
    · exact ⟨_, h0, rfl⟩
    · exact ⟨_, h1, rfl⟩
    · exact ⟨_, h2, rfl⟩
    · obtain ⟨u, h5, h6⟩ := ihr h4 i (by simp only [Fo.len] at hi; omega)
      exact ⟨u, by rw [show o + (i + 1 + 1 + 1) = o + 3 + i from by omega]; exact h5, h6⟩

theorem own_vals {w wr : World} {m b o : Nat} {v : Value} (h : wr.ownsRow w.heap.size 31 3 v m (vals w b o (m * 3))) (h0 : 0 < m) (hat : ∀ i, i < m * 3 → ∃ u, w.cell? ⟨b, o + i, none⟩ = some u ∧ u.oneCell' = true) :
    ∃ g cap, v = .slice (some ⟨g, 0, none⟩) m cap ∧ (∀ i, i < m * 3 → wr.cell? ⟨g, i, none⟩ = w.cell? ⟨b, o + i, none⟩) ∧ (∀ i, wr.frozen? ⟨g, i, none⟩ = false) ∧ w.heap.size ≤ g ∧ g < wr.heap.size := by
  rcases h.2 with ⟨_, h1⟩ | ⟨g, cap, cur, hv, hg, hh, hn, _, hs, ht⟩
  · omega
  · refine ⟨g, cap, hv, fun i hi => ?_, fun i => Fo.unfrozen_of_block hh i, hg, (Array.getElem?_eq_some_iff.1 hh).1⟩
    obtain ⟨u, hu, _⟩ := hat i hi
    rw [Fo.cell_of_block hh, ← Array.getElem?_toList, hu]
    have h3 : (cur.toList.take (m * 3))[i]? = (vals w b o (m * 3))[i]? := by rw [ht]
    rw [List.getElem?_take, if_pos hi] at h3
    rw [h3]
    simp [vals, hi, hu]

set_option maxRecDepth 100000 in
set_option maxHeartbeats 2000000 in
theorem concatE_any (m : Nat) (h0 : 0 < m) (hm : m ≤ 1048576) (b o C V : Nat) (w : World) (hc : w.cell? ⟨V, 0, none⟩ = some (.slice (some ⟨b, o, none⟩) m C)) (hat : ∀ i, i < m * 3 → ∃ u, w.cell? ⟨b, o + i, none⟩ = some u ∧ u.oneCell' = true) :
    Calls Try.prog 147 #[.slice (some ⟨V, 0, none⟩) 1 1] w fun e w' => ∃ g C', e = .returned (.slice (some ⟨g, 0, none⟩) m C') ∧ w.heap.size ≤ g ∧ g < w'.heap.size ∧ (∀ i, i < m * 3 → w'.cell? ⟨g, i, none⟩ = w.cell? ⟨b, o + i, none⟩) ∧ (∀ i, w'.frozen? ⟨g, i, none⟩ = false) ∧ Below w.heap.size w w' := by
  obtain ⟨i0, hi0, hz0, hs0, hb0⟩ := info_parts Try.infoX
  have HI := Lib.hid hi0; have HZ := Lib.hid hz0; have HS := Lib.hid hs0; have HB := Lib.hid hb0
  clear hi0 hz0 hs0 hb0
  have KG : Hid (∀ W : World, Calls Try.prog 168 #[.slice none 0 0, .int .i64 m] W fun e w' => ∃ v, e = .returned v ∧ w'.ownsRow W.heap.size 31 3 v 0 [] ∧ Below W.heap.size W w') := fun W => growE_any m h0 hm W
  have HAT := Lib.hid hat; have HC := Lib.hid hc
  clear hat hc
  have hm0 : (0 : Int) < (m : Int) := by omega
  have hm1 : (m : Int) ≤ 1048576 := by omega
  go_enter Try.func147, Try.ntmps147
  go_wp2_with fail
  go_loopw [3, 11] (fun x i wr => ∃ j : Nat, j ≤ 1 ∧ i = .int .i64 j ∧ x = .int .i64 (j * m : Nat) ∧ Below w.heap.size w wr) (fun _ i _ => 1 - (intOf i).toNat)
  case atStart => exact ⟨0, by omega, rfl, by simp, Below.refl _ _⟩
  case round =>
    obtain ⟨j, hj, rfl, rfl, hb⟩ := hrel
    by_cases hjl : j < 1
    · obtain rfl : j = 0 := by omega
      have c0 := kc hb HC.out
      simp only [Nat.zero_mul]
      go_wp2_with fail
      go_roundw
      case rel => exact ⟨1, by omega, by go_num, by go_num, hb⟩
      case measure => simp [intOf]
    · obtain rfl : j = 1 := by omega
      simp only [Nat.one_mul]
      go_wp2_with fail
      refine (KG.out _).mono ?_
      rintro e w1 ⟨v0, rfl, hown0, hb1⟩
      have hB1 : Below w.heap.size w w1 := hb.trans (hb1.mono hb.size)
      have hO1 : Hid (w1.ownsRow w.heap.size 31 3 v0 0 []) := by
        refine ⟨hown0.1, ?_⟩
        rcases hown0.2 with h | ⟨g, cap, cur, h1, h2, h3⟩
        · exact Or.inl h
        · exact Or.inr ⟨g, cap, cur, h1, Nat.le_trans hb.size h2, h3⟩
      clear hb hb1 hown0 KG
      go_wp2_with fail
      go_loopw [6, 27] (fun v i wr => ∃ j : Nat, j ≤ 1 ∧ i = .int .i64 j ∧ Hid ((j = 0 ∧ wr.ownsRow w.heap.size 31 3 v 0 []) ∨ (j = 1 ∧ wr.ownsRow w.heap.size 31 3 v m (vals w b o (m * 3)))) ∧ Below w.heap.size w wr) (fun _ i _ => 1 - (intOf i).toNat)
      case atStart => exact ⟨0, by omega, rfl, Or.inl ⟨rfl, hO1.out⟩, hB1⟩
      case round =>
        obtain ⟨j, hj, rfl, hown, hb⟩ := hrel
        by_cases hjl : j < 1
        · obtain rfl : j = 0 := by omega
          obtain ⟨_, hO0⟩ := hown.out.resolve_right (fun h => absurd h.1 (by decide))
          have hO := Lib.hid hO0
          clear hO0
          have c0 := kc hb HC.out
          clear hown
          have hnews : Hid (∀ j u, (vals w b o (m * 3))[j]? = some u → wr.cell? ((⟨b, o, none⟩ : Addr).add j) = some u) := fun j u hu => by
            obtain ⟨_, h1, _⟩ := vals_get HAT.out hu
            unfold Addr.add
            split
            · rename_i h0; subst h0; exact kc hb h1
            · exact kc hb h1
          have hone : Hid (∀ u ∈ vals w b o (m * 3), u.oneCell' = true) := fun u hu => by
            obtain ⟨j, hj, rfl⟩ := List.getElem_of_mem hu
            exact (vals_get HAT.out (List.getElem?_eq_getElem hj)).2.2
          go_wp2_with (at_builtin; refine wpList_append_lies _ rfl _ _ 29 rfl w.heap.size 31 i0 (.agg #[.int .i64 0, .int .i64 0, .slice none 0 0]) 3 40 Try.underlying29 HI.out HZ.out HS.out HB.out rfl (by decide) _ 0 [] rfl hO.out ⟨b, o, none⟩ m C (vals w b o (m * 3)) rfl (vals_len _ _ _ _) hnews.out hone.out h0 (by unfold maxLen; omega) (by omega) hb.size _ rfl ?_)
          intro g cap w2 hown2 hg _ _
          have hB2 : Below w.heap.size w w2 := Below.grown hb hg hb.size (fun x hx => (hO.out.lt x hx).1)
          have hO2 : Hid (w2.ownsRow w.heap.size 31 3 (.slice (some ⟨g, 0, none⟩) m cap) m (vals w b o (m * 3))) := by
            exact hown2
          clear hown2 hg c0 hO hnews hone
          go_wp2_with fail
          go_roundw
          case rel => exact ⟨1, by omega, by go_num, Or.inr ⟨rfl, by simpa using hO2.out⟩, hB2⟩
          case measure => simp [intOf]
        · obtain rfl : j = 1 := by omega
          have hO := hown.out
          rcases hO with ⟨h, _⟩ | ⟨_, hO⟩
          · cases h
          obtain ⟨g, cap, rfl, hcell, hfr, hg1, hg2⟩ := own_vals hO h0 HAT.out
          have HCE := Lib.hid hcell; have HFR := Lib.hid hfr
          clear hO hown hcell hfr
          go_wp2_with fail
          go_ret
          exact ⟨g, ⟨cap, rfl⟩, hg1, hg2, HCE.out, HFR.out, hb⟩
end Go.Proofs.Ytlfafcbieeambaa
