/- item: an api.Item as an argument: the tree that it is. -/
import Derived.Test.YtjmfnafbjfceoaaDoorQg
import Derived.Test.YtjmfnafbjfceoaaDoorQf
import Derived.Deep.Slices
import Derived.Carry
import Derived.Deep.Strs
import Derived.Lib.SmallJoins
namespace Go.Proofs.YtjmfnafbjfceoaaDoor
open Go.RowKit Go.Shelf Go.ChangeShapes Go.WideShapes Go.ChangeAt

noncomputable def itF (i : Nat) : Field := match Tryd.prog.underlying 25 with
  | some (.struct fs) => (fs[i]?).getD default
  | _ => default
theorem undIt : Tryd.prog.underlying 25 = some (.struct #[itF 0, itF 1, itF 2]) := by kernel_rfl
theorem itF0 : (itF 0).type = 4 ∧ (itF 0).offset = 0 := ⟨by kernel_rfl, by kernel_rfl⟩
theorem itF1 : (itF 1).type = 22 ∧ (itF 1).offset = 1 := ⟨by kernel_rfl, by kernel_rfl⟩
theorem itF2 : (itF 2).type = 23 ∧ (itF 2).offset = 2 := ⟨by kernel_rfl, by kernel_rfl⟩
theorem cofB : Tryd.prog.cellsOf 4 = 1 := by kernel_rfl
theorem cofS : Tryd.prog.cellsOf 22 = 1 := by kernel_rfl
theorem cofT : Tryd.prog.cellsOf 23 = 1 := by kernel_rfl
theorem cofI : Tryd.prog.cellsOf 25 = 3 := by kernel_rfl
instance : Inhabited It := ⟨.mk false [] []⟩
section
variable {H : Type} {enc : TypeId × Value → H} {X : World} {base : Nat} {sp : Nat → Bool} {held : Bool}
set_option maxRecDepth 100000 in
theorem bytes_open {fuel : Nat} {v : Value} {y : DataW H × List MemPlace} (h : DataW.trod enc Tryd.prog X base sp held fuel 22 [v] = some y) :
    ∃ l x c, v = .slice x l.length c ∧ Bto X.heap.size X v l ∧ ∀ n c, v = .slice none n c → c = 0 := by
  have hu : Tryd.prog.underlying 22 = some (.slice 5) := by kernel_rfl
  have hc : Tryd.prog.cellsOf 5 = 1 := by kernel_rfl
  have h8 : Tryd.prog.underlying 5 = some (.int .u8) := by kernel_rfl
  rcases Go.Deep.open_slice1 hu hc h with ⟨h0, _⟩ | ⟨a, len, cap, m, n, V, D, Pl, h0, hb, hl, hm, hmm, hx, hall⟩
  · simp at h0
    subst h0
    exact ⟨[], none, 0, rfl, ⟨by simp, none, 0, rfl, Nat.le_refl _, by simp, fun h => (h rfl).elim⟩, fun n c e => by cases e; rfl⟩
  · simp at h0
    subst h0
    have hlm : len ≤ m := by rw [hmm]; split <;> omega
    have hel : ∀ i, i < len → ∃ q : Nat, q < 256 ∧ X.cell? (a.add i) = some (.int .u8 q) := fun i hi => by
      obtain ⟨h1, h2⟩ := hall i (by omega)
      obtain ⟨z, e, _, hw⟩ := DataW.trod_int h8 h2
      simp at e
      have hz := bounds_u8 hw
      obtain ⟨q, rfl⟩ := Int.eq_ofNat_of_zero_le hz.1
      exact ⟨q, by omega, by rw [h1, e]⟩
    obtain ⟨f, hF⟩ := Go.Deep.choose_lt (α := Nat) (p := fun i q => q < 256 ∧ X.cell? (a.add i) = some (.int .u8 q)) hel
    have hL : ((List.range len).map f).length = len := by simp
    refine ⟨(List.range len).map f, some a, cap, by rw [hL], ⟨fun x hx => ?_, some a, cap, by rw [hL], by rw [hL]; exact hl, by rw [hL]; unfold maxLen at hm; omega, fun hne => ?_⟩, fun n c e => by cases e⟩
    · simp only [List.mem_map, List.mem_range] at hx
      obtain ⟨i, hi, rfl⟩ := hx
      exact (hF i hi).1
    · obtain ⟨b, o, spot⟩ := a
      have h0' : 0 < len := by rw [← hL]; exact List.length_pos_iff.2 hne
      have hspot : spot = none := by simpa [Addr.add] using World.cell?_spot (hF 0 h0').2
      subst hspot
      have hlt : b < X.heap.size := by
        have := World.block_lt_of_cell? X _ (hF 0 h0').2
        simpa [add_plain] using this
      refine ⟨b, o, rfl, hlt, hlt, fun k u hu => ?_⟩
      have hk : k < len := by have := (List.getElem?_eq_some_iff.1 hu).1; rwa [hL] at this
      rw [List.getElem?_map, List.getElem?_range hk] at hu
      cases hu
      have e1 := (hF k hk).2
      rwa [add_plain] at e1
set_option maxRecDepth 100000 in
theorem item_open : ∀ (fuel : Nat) (cs : List Value) (y : DataW H × List MemPlace), DataW.trod enc Tryd.prog X base sp held fuel 25 cs = some y →
    ∃ t c1 x1 n1 d1 y1 m1 e1, cs = [.bool c1, .slice x1 n1 d1, .slice y1 m1 e1] ∧ ItO X.heap.size X t (.agg #[.bool c1, .slice x1 n1 d1, .slice y1 m1 e1]) := by
  intro fuel
  induction fuel using Nat.strongRecOn with
  | _ fuel ih =>
    intro cs y h
    obtain ⟨xs, n, hfn, rfl, hlen, hsz, hf⟩ := DataW.trod_struct undIt h
    rw [cofI] at hlen
    obtain ⟨v0, v1, v2, rfl⟩ : ∃ v0 v1 v2, cs = [v0, v1, v2] := by
      match cs, hlen with
      | [v0, v1, v2], _ => exact ⟨v0, v1, v2, rfl⟩
    obtain ⟨y0, y1, y2, rfl⟩ : ∃ v0 v1 v2, xs = [v0, v1, v2] := by
      match xs, hsz with
      | [v0, v1, v2], _ => exact ⟨v0, v1, v2, rfl⟩
    have h0 := hf 0 (itF 0) rfl
    have h1 := hf 1 (itF 1) rfl
    have h2 := hf 2 (itF 2) rfl
    rw [itF0.1, itF0.2, cofB] at h0
    rw [itF1.1, itF1.2, cofS] at h1
    rw [itF2.1, itF2.2, cofT] at h2
    replace h0 : DataW.trod enc Tryd.prog X base sp held n 4 [v0] = some y0 := h0
    replace h1 : DataW.trod enc Tryd.prog X base sp held n 22 [v1] = some y1 := h1
    replace h2 : DataW.trod enc Tryd.prog X base sp held n 23 [v2] = some y2 := h2
    obtain ⟨b, e0, _⟩ := DataW.trod_bool (by kernel_rfl) h0
    simp at e0
    subst e0
    obtain ⟨l, x1, c1, rfl, hB, hN0⟩ := bytes_open h1
    rcases DataW.trod_slice (e := 25) (by kernel_rfl) h2 with ⟨e2, _⟩ | ⟨a, len, cap, elems, rest, n', hnn, e2, _, _, hl, hm, hel, hall, _⟩
    · simp at e2
      subst e2
      exact ⟨.mk b l [], b, x1, _, c1, none, 0, 0, rfl, .mk b l [] _ _ [] hB ⟨none, 0, rfl, by simp, fun h => (h rfl).elim⟩ rfl (fun i t v h => by simp at h) hN0⟩
    · simp at e2
      subst e2
      rw [cofI] at hall
      have hE : ∀ i, i < len → ∃ q : It × Value, ItO X.heap.size X q.1 q.2 ∧ ∃ c1 x1 n1 d1 y1 m1 e1, q.2 = .agg #[.bool c1, .slice x1 n1 d1, .slice y1 m1 e1] ∧ X.cell? ((a.add (i * 3)).add 0) = some (.bool c1) ∧ X.cell? ((a.add (i * 3)).add 1) = some (.slice x1 n1 d1) ∧ X.cell? ((a.add (i * 3)).add 2) = some (.slice y1 m1 e1) := fun i hi => by
        have h3 := hall i hi
        rw [show elems[i]? = some (elems[i]'(by omega)) by simp [show i < elems.length by omega]] at h3
        obtain ⟨cs', h4, h5⟩ := Option.bind_eq_some_iff.1 h3
        obtain ⟨_, h6, h7⟩ := World.cells?_some h4
        obtain ⟨t, c1, x1, n1, d1, y1, m1, e1, rfl, ht⟩ := ih n' (by omega) _ _ h5
        exact ⟨(t, _), ht, c1, x1, n1, d1, y1, m1, e1, rfl, h7 0 (by omega), h7 1 (by omega), h7 2 (by omega)⟩
      obtain ⟨f, hF⟩ := Go.Deep.choose_lt (α := It × Value) hE
      have hL : ((List.range len).map fun i => (f i).2).length = len := by simp
      have hT : ((List.range len).map fun i => (f i).1).length = len := by simp
      refine ⟨.mk b l ((List.range len).map fun i => (f i).1), b, x1, _, c1, some a, len, cap, rfl, .mk b l _ _ _ ((List.range len).map fun i => (f i).2) hB ⟨some a, cap, by rw [hL], by rw [hL]; unfold maxLen at hm; omega, fun hne => ?_⟩ (by rw [hL, hT]) (fun i t v h1 h2 => ?_) hN0⟩
      · obtain ⟨bb, o, spot⟩ := a
        have h0' : 0 < len := by rw [← hL]; exact List.length_pos_iff.2 hne
        obtain ⟨_, _, _, _, _, _, _, _, _, g0, _⟩ := hF 0 h0'
        have hspot : spot = none := by simpa [Addr.add] using World.cell?_spot g0
        subst hspot
        have hlt : bb < X.heap.size := by
          have := World.block_lt_of_cell? X _ g0
          simpa [add_plain] using this
        refine ⟨bb, o, rfl, hlt, hlt, fun i v hv => ?_⟩
        have hi : i < len := by have := (List.getElem?_eq_some_iff.1 hv).1; rwa [hL] at this
        rw [List.getElem?_map, List.getElem?_range hi] at hv
        cases hv
        obtain ⟨_, c1, x1, n1, d1, y1, m1, e1, hq, g0, g1, g2⟩ := hF i hi
        simp only [add_plain, Nat.add_zero] at g0 g1 g2
        exact ⟨c1, x1, n1, d1, y1, m1, e1, hq, g0, g1, g2⟩
      · have hi : i < len := by have := (List.getElem?_eq_some_iff.1 h1).1; rwa [hT] at this
        rw [List.getElem?_map, List.getElem?_range hi] at h1 h2
        cases h1
        cases h2
        exact (hF i hi).1
set_option maxRecDepth 100000 in
theorem arg_item {r : Reach} {b0 : Nat} {v : Value} {d : DataW H} {p : List MemPlace} (hv : Value.okWide Tryd.prog X r b0 25 v) (h : DataW.Trod enc Tryd.prog X base sp held 25 v d p) :
    ∃ t, ItO X.heap.size X t v := by
  obtain ⟨cs, rfl, hsz⟩ := okWide_struct undIt hv
  obtain ⟨c0, c1, c2, rfl⟩ := Joins.array3 (hsz.trans cofI)
  obtain ⟨fuel, hf⟩ := h
  obtain ⟨t, _, _, _, _, _, _, _, e, ht⟩ := item_open fuel _ _ hf
  simp [Value.cells] at e
  obtain ⟨rfl, rfl, rfl⟩ := e
  exact ⟨t, ht⟩
end
end Go.Proofs.YtjmfnafbjfceoaaDoor
