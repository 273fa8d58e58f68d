/- policy's cards: the arguments opened: addresses, rules, a policy; the walk for all. -/
import Derived.Test.YtenepkgjdoddgaaGreatDoorAl
namespace Go.Proofs.YtenepkgjdoddgaaGreatDoor
open Go.RowKit Go.ChangeShapes Go.WideShapes Go.ChangeAt

theorem take1 {α : Type} {cs : List α} {i : Nat} {v : α} (h : (cs.drop i).take 1 = [v]) : cs[i]? = some v := by
  have := congrArg (fun l : List α => l[0]?) h
  simpa [List.getElem?_take, List.getElem?_drop] using this
theorem cof8 : Tryz.prog.cellsOf 5 = 1 := by kernel_rfl
theorem cofA : Tryz.prog.cellsOf 29 = 20 := by kernel_rfl
theorem cofL : Tryz.prog.cellsOf 23 = 1 := by kernel_rfl
theorem cof32 : Tryz.prog.cellsOf 30 = 1 := by kernel_rfl
theorem cofSC : Tryz.prog.cellsOf 24 = 1 := by kernel_rfl
theorem cofSR : Tryz.prog.cellsOf 25 = 1 := by kernel_rfl
noncomputable def clF (i : Nat) : Field := match Tryz.prog.underlying 72 with
  | some (.struct fs) => (fs[i]?).getD default
  | _ => default
theorem undcl : Tryz.prog.underlying 72 = some (.struct #[clF 0, clF 1]) := by kernel_rfl
theorem clF0 : (clF 0).type = 29 ∧ (clF 0).offset = 0 := ⟨by kernel_rfl, by kernel_rfl⟩
theorem clF1 : (clF 1).type = 23 ∧ (clF 1).offset = 20 := ⟨by kernel_rfl, by kernel_rfl⟩
theorem cofcl : Tryz.prog.cellsOf 72 = 21 := by kernel_rfl
noncomputable def rlF (i : Nat) : Field := match Tryz.prog.underlying 74 with
  | some (.struct fs) => (fs[i]?).getD default
  | _ => default
theorem undrl : Tryz.prog.underlying 74 = some (.struct #[rlF 0, rlF 1, rlF 2]) := by kernel_rfl
theorem rlF0 : (rlF 0).type = 29 ∧ (rlF 0).offset = 0 := ⟨by kernel_rfl, by kernel_rfl⟩
theorem rlF1 : (rlF 1).type = 30 ∧ (rlF 1).offset = 20 := ⟨by kernel_rfl, by kernel_rfl⟩
theorem rlF2 : (rlF 2).type = 23 ∧ (rlF 2).offset = 21 := ⟨by kernel_rfl, by kernel_rfl⟩
theorem cofrl : Tryz.prog.cellsOf 74 = 22 := by kernel_rfl
noncomputable def poF (i : Nat) : Field := match Tryz.prog.underlying 27 with
  | some (.struct fs) => (fs[i]?).getD default
  | _ => default
theorem undpo : Tryz.prog.underlying 27 = some (.struct #[poF 0, poF 1, poF 2]) := by kernel_rfl
theorem poF0 : (poF 0).type = 23 ∧ (poF 0).offset = 0 := ⟨by kernel_rfl, by kernel_rfl⟩
theorem poF1 : (poF 1).type = 24 ∧ (poF 1).offset = 1 := ⟨by kernel_rfl, by kernel_rfl⟩
theorem poF2 : (poF 2).type = 25 ∧ (poF 2).offset = 2 := ⟨by kernel_rfl, by kernel_rfl⟩
theorem cofpo : Tryz.prog.cellsOf 27 = 3 := by kernel_rfl

section
variable {H : Type} {enc : TypeId × Value → H} {X : World} {base : Nat} {sp : Nat → Bool} {held : Bool}
set_option maxRecDepth 100000 in
theorem addr_open {fuel : Nat} {cs : List Value} {y : DataW H × List MemPlace} (h : DataW.trod enc Tryz.prog X base sp held fuel 29 cs = some y) : ∃ a, Ad a ∧ cs = bvs a := by
  obtain ⟨xs, m, _, _, hl, hx, hf⟩ := DataW.trod_array und_addr h
  rw [cofA] at hl
  have h8 : Tryz.prog.underlying 5 = some (.int .u8) := by kernel_rfl
  have hel : ∀ i, i < 20 → ∃ q : Nat, q < 256 ∧ cs[i]? = some (.int .u8 (q : Nat)) := fun i hi => by
    have h2 := hf i hi
    rw [cof8, Nat.mul_one, List.getElem?_eq_getElem (by omega)] at h2
    obtain ⟨z, e, _, hw⟩ := DataW.trod_int h8 h2
    have hz := bounds_u8 hw
    obtain ⟨q, rfl⟩ := Int.eq_ofNat_of_zero_le hz.1
    exact ⟨q, by omega, take1 e⟩
  obtain ⟨f, hF⟩ := Go.Deep.choose_lt (α := Nat) (p := fun i q => q < 256 ∧ cs[i]? = some (.int .u8 (q : Nat))) hel
  refine ⟨(List.range 20).map f, ⟨by simp, fun x hx => ?_⟩, List.ext_getElem? fun i => ?_⟩
  · obtain ⟨i, hi, rfl⟩ := List.mem_map.1 hx
    exact (hF i (by simpa using hi)).1
  · rw [bvs_get]
    by_cases hi : i < 20
    · rw [(hF i hi).2, List.getElem?_map, List.getElem?_range hi]
      rfl
    · rw [List.getElem?_eq_none (by omega), List.getElem?_eq_none (by simp; omega)]
      rfl
theorem label_open {fuel : Nat} {cs : List Value} {y : DataW H × List MemPlace} (h : DataW.trod enc Tryz.prog X base sp held fuel 23 cs = some y) : ∃ q : Nat, q < 18446744073709551616 ∧ cs = [.int .u64 (q : Nat)] := by
  obtain ⟨z, e, _, hw⟩ := DataW.trod_int (k := .u64) (by kernel_rfl) h
  have hz := bounds_u64 hw
  obtain ⟨q, rfl⟩ := Int.eq_ofNat_of_zero_le hz.1
  exact ⟨q, by omega, e⟩
theorem entry_open {fuel : Nat} {cs : List Value} {y : DataW H × List MemPlace} (h : DataW.trod enc Tryz.prog X base sp held fuel 30 cs = some y) : ∃ q : Nat, q < 4294967296 ∧ cs = [.int .u32 (q : Nat)] := by
  obtain ⟨z, e, _, hw⟩ := DataW.trod_int (k := .u32) (by kernel_rfl) h
  have hz := bounds_u32 hw
  obtain ⟨q, rfl⟩ := Int.eq_ofNat_of_zero_le hz.1
  exact ⟨q, by omega, e⟩
set_option maxRecDepth 100000 in
theorem clear_open {fuel : Nat} {cs : List Value} {y : DataW H × List MemPlace} (h : DataW.trod enc Tryz.prog X base sp held fuel 72 cs = some y) : ∃ c : List Nat × Nat, (Ad c.1 ∧ c.2 < 18446744073709551616) ∧ cs = (clC c).toList := by
  obtain ⟨xs, n, _, _, hlen, hsz, hf⟩ := DataW.trod_struct undcl h
  rw [cofcl] at hlen
  obtain ⟨y0, y1, rfl⟩ : ∃ v0 v1, xs = [v0, v1] := by
    match xs, hsz with
    | [v0, v1], _ => exact ⟨v0, v1, rfl⟩
  have h0 := hf 0 (clF 0) rfl
  have h1 := hf 1 (clF 1) rfl
  rw [clF0.1, clF0.2, cofA] at h0
  rw [clF1.1, clF1.2, cofL] at h1
  replace h0 : DataW.trod enc Tryz.prog X base sp held n 29 ((cs.drop 0).take 20) = some y0 := h0
  replace h1 : DataW.trod enc Tryz.prog X base sp held n 23 ((cs.drop 20).take 1) = some y1 := h1
  obtain ⟨a, ha, e0⟩ := addr_open h0
  obtain ⟨q, hq, e1⟩ := label_open h1
  refine ⟨(a, q), ⟨ha, hq⟩, ?_⟩
  rw [List.drop_zero] at e0
  rw [List.take_of_length_le (by rw [List.length_drop]; omega)] at e1
  unfold clC
  rw [← List.take_append_drop 20 cs, e0, e1]
set_option maxRecDepth 100000 in
theorem release_open {fuel : Nat} {cs : List Value} {y : DataW H × List MemPlace} (h : DataW.trod enc Tryz.prog X base sp held fuel 74 cs = some y) : ∃ c : List Nat × Nat × Nat, (Ad c.1 ∧ c.2.1 < 4294967296 ∧ c.2.2 < 18446744073709551616) ∧ cs = (rlC c).toList := by
  obtain ⟨xs, n, _, _, hlen, hsz, hf⟩ := DataW.trod_struct undrl h
  rw [cofrl] at hlen
  obtain ⟨y0, y1, y2, rfl⟩ : ∃ v0 v1 v2, xs = [v0, v1, v2] := by
    match xs, hsz with
    | [v0, v1, v2], _ => exact ⟨v0, v1, v2, rfl⟩
  have h0 := hf 0 (rlF 0) rfl
  have h1 := hf 1 (rlF 1) rfl
  have h2 := hf 2 (rlF 2) rfl
  rw [rlF0.1, rlF0.2, cofA] at h0
  rw [rlF1.1, rlF1.2, cof32] at h1
  rw [rlF2.1, rlF2.2, cofL] at h2
  replace h0 : DataW.trod enc Tryz.prog X base sp held n 29 ((cs.drop 0).take 20) = some y0 := h0
  replace h1 : DataW.trod enc Tryz.prog X base sp held n 30 ((cs.drop 20).take 1) = some y1 := h1
  replace h2 : DataW.trod enc Tryz.prog X base sp held n 23 ((cs.drop 21).take 1) = some y2 := h2
  obtain ⟨a, ha, e0⟩ := addr_open h0
  obtain ⟨q, hq, e1⟩ := entry_open h1
  obtain ⟨r, hr, e2⟩ := label_open h2
  refine ⟨(a, q, r), ⟨ha, hq, hr⟩, ?_⟩
  rw [List.drop_zero] at e0
  rw [List.take_of_length_le (by rw [List.length_drop]; omega)] at e2
  have e3 : cs.drop 20 = [.int .u32 (q : Nat), .int .u64 (r : Nat)] := by
    rw [← List.take_append_drop 1 (cs.drop 20), e1, List.drop_drop, e2]
    rfl
  unfold rlC
  rw [← List.take_append_drop 20 cs, e0, e3]
set_option maxRecDepth 100000 in
theorem clears_open {fuel : Nat} {v : Value} {y : DataW H × List MemPlace} (h : DataW.trod enc Tryz.prog X base sp held fuel 24 [v] = some y) : ∃ l x c, v = .slice x l.length c ∧ ClA X v l := by
  have hu : Tryz.prog.underlying 24 = some (.slice 72) := by kernel_rfl
  rcases Go.Deep.open_slice hu h with ⟨h0, _⟩ | ⟨a, len, cap, m, n, D, Pl, h0, hb, hl, hm, hmm, hx, hall⟩
  · simp at h0
    subst h0
    exact ⟨[], none, 0, rfl, by simp, none, 0, rfl, by simp, fun h => (h rfl).elim⟩
  · simp at h0
    subst h0
    have hlm : len ≤ m := by rw [hmm]; split <;> omega
    rw [cofcl] at hall
    have hel : ∀ i, i < len → ∃ q : List Nat × Nat, (Ad q.1 ∧ q.2 < 18446744073709551616) ∧ ∀ j, j < 21 → X.cell? ((a.add (i * 21)).add j) = (clC q).toList[j]? := fun i hi => by
      obtain ⟨cs', h1, h2⟩ := hall i (by omega)
      obtain ⟨q, hq, rfl⟩ := clear_open h2
      obtain ⟨_, _, h7⟩ := World.cells?_some h1
      exact ⟨q, hq, h7⟩
    obtain ⟨f, hF⟩ := Go.Deep.choose_lt (α := List Nat × Nat) (p := fun i q => (Ad q.1 ∧ q.2 < 18446744073709551616) ∧ ∀ j, j < 21 → X.cell? ((a.add (i * 21)).add j) = (clC q).toList[j]?) hel
    have hL : ((List.range len).map f).length = len := by simp
    refine ⟨(List.range len).map f, some a, cap, by rw [hL], fun c hc => ?_, some a, cap, by rw [hL], by rw [hL]; unfold maxLen at hm; omega, fun hne => ?_⟩
    · obtain ⟨i, hi, rfl⟩ := List.mem_map.1 hc
      exact (hF i (by simpa using hi)).1
    · obtain ⟨b, o, spot⟩ := a
      have h0' : 0 < len := by rw [← hL]; exact List.length_pos_iff.2 hne
      have g0 : X.cell? (((⟨b, o, spot⟩ : Addr).add (0 * 21)).add 0) = some ((clC (f 0)).toList[0]'(by rw [clC_len (hF 0 h0').1.1]; omega)) := by
        rw [(hF 0 h0').2 0 (by omega), List.getElem?_eq_getElem (by rw [clC_len (hF 0 h0').1.1]; omega)]
      have hspot : spot = none := by simpa [Addr.add] using World.cell?_spot g0
      subst hspot
      have hlt : b < X.heap.size := by
        have := World.block_lt_of_cell? X _ g0
        simpa [add_plain] using this
      refine ⟨b, o, rfl, hlt, fun k c hc => ?_⟩
      have hk : k < len := by have := (List.getElem?_eq_some_iff.1 hc).1; rwa [hL] at this
      rw [List.getElem?_map, List.getElem?_range hk] at hc
      cases hc
      intro j w hw
      have hj : j < 21 := by have := (List.getElem?_eq_some_iff.1 hw).1; rwa [clC_len (hF k hk).1.1] at this
      have e1 := (hF k hk).2 j hj
      rw [add_plain, add_plain, hw] at e1
      exact e1
set_option maxRecDepth 100000 in
theorem releases_open {fuel : Nat} {v : Value} {y : DataW H × List MemPlace} (h : DataW.trod enc Tryz.prog X base sp held fuel 25 [v] = some y) : ∃ l x c, v = .slice x l.length c ∧ RlA X v l := by
  have hu : Tryz.prog.underlying 25 = some (.slice 74) := by kernel_rfl
  rcases Go.Deep.open_slice hu h with ⟨h0, _⟩ | ⟨a, len, cap, m, n, D, Pl, h0, hb, hl, hm, hmm, hx, hall⟩
  · simp at h0
    subst h0
    exact ⟨[], none, 0, rfl, by simp, none, 0, rfl, by simp, fun h => (h rfl).elim⟩
  · simp at h0
    subst h0
    have hlm : len ≤ m := by rw [hmm]; split <;> omega
    rw [cofrl] at hall
    have hel : ∀ i, i < len → ∃ q : List Nat × Nat × Nat, (Ad q.1 ∧ q.2.1 < 4294967296 ∧ q.2.2 < 18446744073709551616) ∧ ∀ j, j < 22 → X.cell? ((a.add (i * 22)).add j) = (rlC q).toList[j]? := fun i hi => by
      obtain ⟨cs', h1, h2⟩ := hall i (by omega)
      obtain ⟨q, hq, rfl⟩ := release_open h2
      obtain ⟨_, _, h7⟩ := World.cells?_some h1
      exact ⟨q, hq, h7⟩
    obtain ⟨f, hF⟩ := Go.Deep.choose_lt (α := List Nat × Nat × Nat) (p := fun i q => (Ad q.1 ∧ q.2.1 < 4294967296 ∧ q.2.2 < 18446744073709551616) ∧ ∀ j, j < 22 → X.cell? ((a.add (i * 22)).add j) = (rlC q).toList[j]?) hel
    have hL : ((List.range len).map f).length = len := by simp
    refine ⟨(List.range len).map f, some a, cap, by rw [hL], fun c hc => ?_, some a, cap, by rw [hL], by rw [hL]; unfold maxLen at hm; omega, fun hne => ?_⟩
    · obtain ⟨i, hi, rfl⟩ := List.mem_map.1 hc
      exact (hF i (by simpa using hi)).1
    · obtain ⟨b, o, spot⟩ := a
      have h0' : 0 < len := by rw [← hL]; exact List.length_pos_iff.2 hne
      have g0 : X.cell? (((⟨b, o, spot⟩ : Addr).add (0 * 22)).add 0) = some ((rlC (f 0)).toList[0]'(by rw [rlC_len (hF 0 h0').1.1]; omega)) := by
        rw [(hF 0 h0').2 0 (by omega), List.getElem?_eq_getElem (by rw [rlC_len (hF 0 h0').1.1]; omega)]
      have hspot : spot = none := by simpa [Addr.add] using World.cell?_spot g0
      subst hspot
      have hlt : b < X.heap.size := by
        have := World.block_lt_of_cell? X _ g0
        simpa [add_plain] using this
      refine ⟨b, o, rfl, hlt, fun k c hc => ?_⟩
      have hk : k < len := by have := (List.getElem?_eq_some_iff.1 hc).1; rwa [hL] at this
      rw [List.getElem?_map, List.getElem?_range hk] at hc
      cases hc
      intro j w hw
      have hj : j < 22 := by have := (List.getElem?_eq_some_iff.1 hw).1; rwa [rlC_len (hF k hk).1.1] at this
      have e1 := (hF k hk).2 j hj
      rw [add_plain, add_plain, hw] at e1
      exact e1
set_option maxRecDepth 100000 in
theorem arg_policy {r : Reach} {b0 : Nat} {v : Value} {d : DataW H} {p : List MemPlace} (hv : Value.okWide Tryz.prog X r b0 27 v) (h : DataW.Trod enc Tryz.prog X base sp held 27 v d p) :
    ∃ (df : Nat) (cs : List (List Nat × Nat)) (rs : List (List Nat × Nat × Nat)) (x1 x2 : Option Addr) (c1 c2 : Nat), df < 18446744073709551616 ∧ v = .agg #[.int .u64 (df : Nat), .slice x1 cs.length c1, .slice x2 rs.length c2] ∧ ClA X (.slice x1 cs.length c1) cs ∧ RlA X (.slice x2 rs.length c2) rs := by
  obtain ⟨cs, rfl, hcz⟩ := okWide_struct undpo hv
  obtain ⟨c0, c1, c2, rfl⟩ := Joins.array3 (hcz.trans cofpo)
  obtain ⟨fuel, hfu⟩ := h
  obtain ⟨xs, n, _, _, hlen, hsz, hf⟩ := DataW.trod_struct undpo hfu
  obtain ⟨y0, y1, y2, rfl⟩ : ∃ v0 v1 v2, xs = [v0, v1, v2] := by
    match xs, hsz with
    | [v0, v1, v2], _ => exact ⟨v0, v1, v2, rfl⟩
  have h0 := hf 0 (poF 0) rfl
  have h1 := hf 1 (poF 1) rfl
  have h2 := hf 2 (poF 2) rfl
  rw [poF0.1, poF0.2, cofL] at h0
  rw [poF1.1, poF1.2, cofSC] at h1
  rw [poF2.1, poF2.2, cofSR] at h2
  replace h0 : DataW.trod enc Tryz.prog X base sp held n 23 [c0] = some y0 := h0
  replace h1 : DataW.trod enc Tryz.prog X base sp held n 24 [c1] = some y1 := h1
  replace h2 : DataW.trod enc Tryz.prog X base sp held n 25 [c2] = some y2 := h2
  obtain ⟨q, hq, e0⟩ := label_open h0
  simp at e0
  subst e0
  obtain ⟨l, x1, k1, rfl, hl⟩ := clears_open h1
  obtain ⟨m, x2, k2, rfl, hm⟩ := releases_open h2
  exact ⟨q, l, m, x1, x2, k1, k2, hq, rfl, hl, hm⟩
end
end Go.Proofs.YtenepkgjdoddgaaGreatDoor
