/- big's cards: the library's tables as they are laid; arguments opened. -/
import Derived.Test.YtjkniebedgiclaaDoorCards
import Derived.Test.YtjkniebedgiclaaDoorTie
import Derived.Test.YtjkniebedgiclaaDoorOm
import Derived.WalkKit
import Derived.ProofKit
import Derived.OpenShut
import Derived.Deep.DeepHandedRow
import Derived.Lib.LaidTab
import Derived.Lib.SmallJoins
import Derived.Laws.IdiomArrays
import Derived.WideKeyArr2
import Derived.SevenTiedAt
import Derived.ChangeMaps5
import Derived.Deep.Slices
import Derived.Carry
namespace Go.Proofs.YtjkniebedgiclaaDoor
open Go.RowKit Go.ChangeShapes Go.WideShapes Go.ChangeAt

theorem own : ownKnob Tryd.prog.godebug = none := by kernel_rfl
/-- What a call that only makes memory owes its row (nothing is said of a second call). -/
theorem post_of_below {H : Type} {enc : TypeId × Value → H} {P : Program} {f : Func} {s : ChangeSpec} {apart fresh handsOn : Bool} {W W' : World} {args : Array Value} {v : Value} {ds gs : List (DataW H)} {before pa pv : List MemPlace}
    (hW : DataW.Whole enc P f.params.toList s.vars apart W args.toList ds gs before)
    (hres : ∀ (b : Nat) (sp : Nat → Bool) (hd : Bool), DataW.TrodAll enc P W' b sp hd f.resultTypes.toList (v.resultList f.resultTypes.size) (s.fn H (ds ++ gs)).results [])
    (hargs : ∀ sp : Nat → Bool, (∀ p ∈ before, sp p.block = true) → DataW.TrodAll enc P W' 0 sp true f.params.toList args.toList (s.fn H (ds ++ gs)).args pa)
    (hvars : ∀ sp : Nat → Bool, (∀ p ∈ before, sp p.block = true) → DataW.TrodVars enc P W' sp s.vars (s.fn H (ds ++ gs)).vars pv)
    (hps : before = pa ++ pv) (hk : W.keptBut W' (· ∈ before)) : s.post enc P f apart fresh handsOn false W args v W' := by
  have hold : ∀ p ∈ before, (fun b => decide (b < W.heap.size)) p.block = true := fun p hp => by simpa using hW.lt p hp
  refine ⟨ds, gs, before, [], pa, pv, hW, hres _ _ _, hargs _ hold, hvars _ hold, World.keptBut_mono (fun p hp => ⟨hp, ?_⟩) hk, fun h => by cases h⟩
  rw [hps, List.mem_append] at hp
  exact Or.inr hp
def setC (C : Array Value) : Obj → Obj
  | .cells _ t frozen => .cells C t frozen
  | o => o
/-- A WORLD FOR THE WITNESS: the settled one, the two tables of the library holding what they are laid with. -/
def firstC : Array Value := (Go.Pinned.utf8FirstZ.map fun z => Value.int .u8 (z : Nat)).toArray
def rangesC : Array Value := #[.int .u8 128, .int .u8 191, .int .u8 160, .int .u8 191, .int .u8 128, .int .u8 159, .int .u8 144, .int .u8 191, .int .u8 128, .int .u8 143, .int .u8 0, .int .u8 0, .int .u8 0, .int .u8 0, .int .u8 0, .int .u8 0, .int .u8 0, .int .u8 0, .int .u8 0, .int .u8 0, .int .u8 0, .int .u8 0, .int .u8 0, .int .u8 0, .int .u8 0, .int .u8 0, .int .u8 0, .int .u8 0, .int .u8 0, .int .u8 0, .int .u8 0, .int .u8 0]
/-- What a call that only makes memory owes its row, where an argument lies in memory. -/
theorem post_of_kept {H : Type} {enc : TypeId × Value → H} {P : Program} {f : Func} {s : ChangeSpec} {apart fresh handsOn : Bool} {W W' : World} {args : Array Value} {v : Value} {ds gs : List (DataW H)} {before : List MemPlace}
    (hW : DataW.Whole enc P f.params.toList s.vars apart W args.toList ds gs before)
    (hres : ∀ (b : Nat) (sp : Nat → Bool) (hd : Bool), DataW.TrodAll enc P W' b sp hd f.resultTypes.toList (v.resultList f.resultTypes.size) (s.fn H (ds ++ gs)).results [])
    (hargs : DataW.TrodAll enc P W' 0 (fun b => decide (b < W.heap.size)) true f.params.toList args.toList (s.fn H (ds ++ gs)).args before)
    (hvars : DataW.TrodVars enc P W' (fun b => decide (b < W.heap.size)) s.vars (s.fn H (ds ++ gs)).vars [])
    (hk : W.keptBut W' (· ∈ before)) : s.post enc P f apart fresh handsOn false W args v W' := by
  refine ⟨ds, gs, before, [], before, [], hW, hres _ _ _, hargs, hvars, World.keptBut_mono (fun p hp => ⟨hp, ?_⟩) hk, fun h => by cases h⟩
  exact Or.inr (Or.inl hp)
noncomputable def laidW (os : Os) : World :=
  { World.holding Tryd.prog os ⟨#[], #[], []⟩ with heap := ((World.holding Tryd.prog os ⟨#[], #[], []⟩).heap.modify 3 (setC firstC)).modify 4 (setC rangesC) }
theorem arrI3 : WideMaps.ArrKey Tryd.prog 42 3 3 := ⟨by kernel_rfl, by kernel_rfl, by kernel_rfl, by kernel_rfl⟩
def datI3 {H : Type} (x y z : Int) : DataW H := .agg [.lit (.int .i64 x), .lit (.int .i64 y), .lit (.int .i64 z)]
section
variable {H : Type} {enc : TypeId × Value → H} {X : World} {base : Nat} {sp : Nat → Bool} {held : Bool}
set_option maxRecDepth 100000 in
theorem open_three {r : Reach} {b0 : Nat} {v : Value} {d : DataW H} {p : List MemPlace} (hv : Value.okWide Tryd.prog X r b0 42 v) (h : DataW.Trod enc Tryd.prog X base sp held 42 v d p) :
    ∃ x y z : Int, ((Lit.int .i64 x).wf = true ∧ (Lit.int .i64 y).wf = true ∧ (Lit.int .i64 z).wf = true) ∧ v = .agg #[.int .i64 x, .int .i64 y, .int .i64 z] ∧ d = datI3 x y z ∧ p = [] := by
  obtain ⟨xs, rfl, hn⟩ := WideMaps.okWide_arr arrI3 hv
  obtain ⟨c0, c1, c2, rfl⟩ := Joins.array3 hn
  obtain ⟨fuel, hf⟩ := h
  obtain ⟨y0, y1, y2, m, hx, h0, h1, h2⟩ := trod_array3 arrI3.hu arrI3.one (by simpa [Value.cells] using hf)
  obtain ⟨a0, e0, rfl, w0⟩ := DataW.trod_int Tryd.underlying3 h0
  obtain ⟨a1, e1, rfl, w1⟩ := DataW.trod_int Tryd.underlying3 h1
  obtain ⟨a2, e2, rfl, w2⟩ := DataW.trod_int Tryd.underlying3 h2
  simp at e0 e1 e2
  subst e0 e1 e2
  simp only [Prod.mk.injEq] at hx
  exact ⟨_, _, _, ⟨w0, w1, w2⟩, rfl, hx.1, by simpa using hx.2⟩
set_option maxRecDepth 100000 in
theorem shut_three {x y z : Int} (h : (Lit.int .i64 x).wf = true ∧ (Lit.int .i64 y).wf = true ∧ (Lit.int .i64 z).wf = true) : DataW.Trod enc Tryd.prog X base sp held 42 (.agg #[.int .i64 x, .int .i64 y, .int .i64 z]) (datI3 x y z) [] := by
  have r3 : List.range 3 = [0, 1, 2] := rfl
  refine ⟨2, ?_⟩
  simp [DataW.trod, Value.cells, arrI3.hu, arrI3.one, arrI3.size, Tryd.underlying3, r3, h.1, h.2.1, h.2.2, datI3]
set_option maxRecDepth 100000 in
theorem bytes_open {fuel : Nat} {v : Value} {y : DataW H × List MemPlace} (h : DataW.trod enc Tryd.prog X base sp held fuel 22 [v] = some y) :
    ∃ l x c, v = .slice x l.length c ∧ Bto X.heap.size X v l ∧ ∀ n c, v = .slice none n c → c = 0 := by
  have hu : Tryd.prog.underlying 22 = some (.slice 5) := by kernel_rfl
  have hc : Tryd.prog.cellsOf 5 = 1 := by kernel_rfl
  have h8 : Tryd.prog.underlying 5 = some (.int .u8) := by kernel_rfl
  rcases Go.Deep.open_slice1 hu hc h with ⟨h0, _⟩ | ⟨a, len, cap, m, n, V, D, Pl, h0, hb, hl, hm, hmm, hx, hall⟩
  · simp at h0
    subst h0
    exact ⟨[], none, 0, rfl, ⟨by simp, none, 0, rfl, Nat.le_refl _, by simp, fun h => (h rfl).elim⟩, fun n c e => by cases e; rfl⟩
  · simp at h0
    subst h0
    have hlm : len ≤ m := by rw [hmm]; split <;> omega
    have hel : ∀ i, i < len → ∃ q : Nat, q < 256 ∧ X.cell? (a.add i) = some (.int .u8 q) := fun i hi => by
      obtain ⟨h1, h2⟩ := hall i (by omega)
      obtain ⟨z, e, _, hw⟩ := DataW.trod_int h8 h2
      simp at e
      have hz := bounds_u8 hw
      obtain ⟨q, rfl⟩ := Int.eq_ofNat_of_zero_le hz.1
      exact ⟨q, by omega, by rw [h1, e]⟩
    obtain ⟨f, hF⟩ := Go.Deep.choose_lt (α := Nat) (p := fun i q => q < 256 ∧ X.cell? (a.add i) = some (.int .u8 q)) hel
    have hL : ((List.range len).map f).length = len := by simp
    refine ⟨(List.range len).map f, some a, cap, by rw [hL], ⟨fun x hx => ?_, some a, cap, by rw [hL], by rw [hL]; exact hl, by rw [hL]; unfold maxLen at hm; omega, fun hne => ?_⟩, fun n c e => by cases e⟩
    · simp only [List.mem_map, List.mem_range] at hx
      obtain ⟨i, hi, rfl⟩ := hx
      exact (hF i hi).1
    · obtain ⟨b, o, spot⟩ := a
      have h0' : 0 < len := by rw [← hL]; exact List.length_pos_iff.2 hne
      have hspot : spot = none := by simpa [Addr.add] using World.cell?_spot (hF 0 h0').2
      subst hspot
      have hlt : b < X.heap.size := by
        have := World.block_lt_of_cell? X _ (hF 0 h0').2
        simpa [add_plain] using this
      refine ⟨b, o, rfl, hlt, hlt, fun k u hu => ?_⟩
      have hk : k < len := by have := (List.getElem?_eq_some_iff.1 hu).1; rwa [hL] at this
      rw [List.getElem?_map, List.getElem?_range hk] at hu
      cases hu
      have e1 := (hF k hk).2
      rwa [add_plain] at e1

set_option maxRecDepth 100000 in
theorem arg_bytes {r : Reach} {b0 : Nat} {v : Value} {d : DataW H} {p : List MemPlace} (_hv : Value.okWide Tryd.prog X r b0 22 v) (h : DataW.Trod enc Tryd.prog X base sp held 22 v d p) : ∃ l x c, v = .slice x l.length c ∧ Bto X.heap.size X v l ∧ ∀ n c, v = .slice none n c → c = 0 := by
  obtain ⟨x0, l0, c0, rfl⟩ := okWide_slice (show Tryd.prog.underlying 22 = some (.slice 5) by kernel_rfl) _hv
  obtain ⟨fuel, hf⟩ := h
  exact bytes_open (v := .slice x0 l0 c0) hf
end
end Go.Proofs.YtjkniebedgiclaaDoor
