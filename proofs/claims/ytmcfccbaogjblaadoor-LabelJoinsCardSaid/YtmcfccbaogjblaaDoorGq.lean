/- label's cards: the library's tables as they are laid; arguments opened. -/
import Derived.Test.YtmcfccbaogjblaaDoorCards
import Derived.Test.YtmcfccbaogjblaaDoorTie
import Derived.Test.YtmcfccbaogjblaaDoorGl
import Derived.Test.YtmcfccbaogjblaaDoorGm
import Derived.Test.YtmcfccbaogjblaaDoorGn
import Derived.Test.YtmcfccbaogjblaaDoorGp
import Derived.WalkKit
import Derived.ProofKit
import Derived.OpenShut
import Derived.Deep.DeepHandedRow
import Derived.Lib.LaidTab
import Derived.Lib.SmallJoins
import Derived.Laws.IdiomArrays
import Derived.WideKeyArr2
import Derived.SevenTiedAt
import Derived.ChangeMaps5
import Derived.Deep.Slices
import Derived.Carry
namespace Go.Proofs.YtmcfccbaogjblaaDoor
open Go.RowKit Go.ChangeShapes Go.WideShapes Go.ChangeAt

theorem own : ownKnob Tryd.prog.godebug = none := by kernel_rfl
/-- What a call that only makes memory owes its row (nothing is said of a second call). -/
theorem post_of_below {H : Type} {enc : TypeId × Value → H} {P : Program} {f : Func} {s : ChangeSpec} {apart fresh handsOn : Bool} {W W' : World} {args : Array Value} {v : Value} {ds gs : List (DataW H)} {before pa pv : List MemPlace}
    (hW : DataW.Whole enc P f.params.toList s.vars apart W args.toList ds gs before)
    (hres : ∀ (b : Nat) (sp : Nat → Bool) (hd : Bool), DataW.TrodAll enc P W' b sp hd f.resultTypes.toList (v.resultList f.resultTypes.size) (s.fn H (ds ++ gs)).results [])
    (hargs : ∀ sp : Nat → Bool, (∀ p ∈ before, sp p.block = true) → DataW.TrodAll enc P W' 0 sp true f.params.toList args.toList (s.fn H (ds ++ gs)).args pa)
    (hvars : ∀ sp : Nat → Bool, (∀ p ∈ before, sp p.block = true) → DataW.TrodVars enc P W' sp s.vars (s.fn H (ds ++ gs)).vars pv)
    (hps : before = pa ++ pv) (hk : W.keptBut W' (· ∈ before)) : s.post enc P f apart fresh handsOn false W args v W' := by
  have hold : ∀ p ∈ before, (fun b => decide (b < W.heap.size)) p.block = true := fun p hp => by simpa using hW.lt p hp
  refine ⟨ds, gs, before, [], pa, pv, hW, hres _ _ _, hargs _ hold, hvars _ hold, World.keptBut_mono (fun p hp => ⟨hp, ?_⟩) hk, fun h => by cases h⟩
  rw [hps, List.mem_append] at hp
  exact Or.inr hp
def setC (C : Array Value) : Obj → Obj
  | .cells _ t frozen => .cells C t frozen
  | o => o
/-- What a call that only makes memory owes its row, where an argument lies in memory. -/
theorem post_of_kept {H : Type} {enc : TypeId × Value → H} {P : Program} {f : Func} {s : ChangeSpec} {apart fresh handsOn : Bool} {W W' : World} {args : Array Value} {v : Value} {ds gs : List (DataW H)} {before : List MemPlace}
    (hW : DataW.Whole enc P f.params.toList s.vars apart W args.toList ds gs before)
    (hres : ∀ (b : Nat) (sp : Nat → Bool) (hd : Bool), DataW.TrodAll enc P W' b sp hd f.resultTypes.toList (v.resultList f.resultTypes.size) (s.fn H (ds ++ gs)).results [])
    (hargs : DataW.TrodAll enc P W' 0 (fun b => decide (b < W.heap.size)) true f.params.toList args.toList (s.fn H (ds ++ gs)).args before)
    (hvars : DataW.TrodVars enc P W' (fun b => decide (b < W.heap.size)) s.vars (s.fn H (ds ++ gs)).vars [])
    (hk : W.keptBut W' (· ∈ before)) : s.post enc P f apart fresh handsOn false W args v W' := by
  refine ⟨ds, gs, before, [], before, [], hW, hres _ _ _, hargs, hvars, World.keptBut_mono (fun p hp => ⟨hp, ?_⟩) hk, fun h => by cases h⟩
  exact Or.inr (Or.inl hp)
def tab32C : Array Value := #[.int .u8 0, .int .u8 1, .int .u8 28, .int .u8 2, .int .u8 29, .int .u8 14, .int .u8 24, .int .u8 3, .int .u8 30, .int .u8 22, .int .u8 20, .int .u8 15, .int .u8 25, .int .u8 17, .int .u8 4, .int .u8 8, .int .u8 31, .int .u8 27, .int .u8 13, .int .u8 23, .int .u8 21, .int .u8 19, .int .u8 16, .int .u8 7, .int .u8 26, .int .u8 12, .int .u8 18, .int .u8 6, .int .u8 11, .int .u8 5, .int .u8 10, .int .u8 9]
def tab64C : Array Value := (Lib.deBruijn64tab.map fun z => Value.int .u8 (z : Nat)).toArray
def powC : Array Value := #[.int .u64 1, .int .u64 10, .int .u64 100, .int .u64 1000, .int .u64 10000, .int .u64 100000, .int .u64 1000000, .int .u64 10000000, .int .u64 100000000, .int .u64 1000000000, .int .u64 10000000000, .int .u64 100000000000, .int .u64 1000000000000, .int .u64 10000000000000, .int .u64 100000000000000, .int .u64 1000000000000000, .int .u64 10000000000000000, .int .u64 100000000000000000, .int .u64 1000000000000000000, .int .u64 10000000000000000000]
noncomputable def laidW (os : Os) : World :=
  { World.holding Tryd.prog os ⟨#[], #[], []⟩ with heap := (((World.holding Tryd.prog os ⟨#[], #[], []⟩).heap.modify 2 (setC tab32C)).modify 0 (setC tab64C)).modify 1 (setC powC) }
theorem tz_of_laid {W : World} (h : laidMet Tryd.prog [("math/bits.deBruijn32tab", Rows.laid_math_bits_deBruijn32tab), ("math/bits.deBruijn64tab", Rows.laid_math_bits_deBruijn64tab), ("internal/strconv.uint64pow10", Rows.laid_internal_strconv_uint64pow10)] W) : TZ W := by
  obtain ⟨ps, ⟨g0, t0, cs0, fuel0, p0, q0, _, _, _, _, hrest, _⟩, _⟩ := h
  obtain ⟨g', t', cs, fuel, p, q, hg', ht', hvar, hd, _, _⟩ := hrest
  have hgn : Tryd.prog.globalNamed "math/bits.deBruijn64tab" = some 0 := by kernel_rfl
  have hty : (Tryd.prog.globals[0]?).map (·.type) = some 71 := by kernel_rfl
  obtain rfl := Option.some.inj (hgn.symm.trans hg')
  obtain rfl := Option.some.inj (hty.symm.trans ht')
  have hcs := Lib.cells_of_tab (P := Tryd.prog) (k := .u8) (zs := Lib.deBruijn64tab.map fun (z : Nat) => (z : Int)) (t := 71) (e := 5) (n := 64) (by kernel_rfl) (by kernel_rfl) (by kernel_rfl) (by kernel_rfl) hd
  intro j hj
  have hc := World.var?_cell hgn hvar j
  rw [hc, ← Array.getElem?_toList, hcs, List.getElem?_map, List.getElem?_map, List.getD_eq_getElem?_getD]
  have hl : j < Lib.deBruijn64tab.length := hj
  rw [List.getElem?_eq_getElem hl]
  rfl

theorem lab_nat {a : Int} (h : (Lit.int .u64 a).wf = true) : ∃ n : Nat, n < 2 ^ 64 ∧ a = (n : Int) := by
  have g0 := bounds_u64 h
  obtain ⟨x, rfl⟩ := Int.eq_ofNat_of_zero_le g0.1
  exact ⟨x, by omega, rfl⟩
theorem texts_all (a : Int) (s : ByteArray) (ha : (Lit.int .u64 a).wf = true) (hs : s.size ≤ maxLen) (w : World) (hT : TZ w) :
    Calls Tryd.prog 4 #[.int .u64 a, .string s] w fun e w' => e = .returned (.bool true) ∧ Below w.heap.size w w' := by
  obtain ⟨x, hx, rfl⟩ := lab_nat ha
  exact texts_walk x s hx (by unfold maxLen at hs; omega) w hT
theorem holds_all (a b c : Int) (ha : (Lit.int .u64 a).wf = true) (hb : (Lit.int .u64 b).wf = true) (hc : (Lit.int .u64 c).wf = true) (w : World) (hT : TZ w) :
    Calls Tryd.prog 6 #[.int .u64 a, .int .u64 b, .int .u64 c] w fun e w' => e = .returned (.bool true) ∧ Below w.heap.size w w' := by
  obtain ⟨x, hx, rfl⟩ := lab_nat ha
  obtain ⟨y, hy, rfl⟩ := lab_nat hb
  obtain ⟨z, hz, rfl⟩ := lab_nat hc
  exact holds_walk x y z hx hy hz w hT
theorem members_all (a n : Int) (ha : (Lit.int .u64 a).wf = true) (w : World) (hT : TZ w) :
    Calls Tryd.prog 5 #[.int .u64 a, .int .i64 n] w fun e w' => e = .returned (.bool true) ∧ Below w.heap.size w w' := by
  obtain ⟨x, hx, rfl⟩ := lab_nat ha
  exact members_walk x n hx w hT
section
variable {H : Type} {enc : TypeId × Value → H} {X : World} {base : Nat} {sp : Nat → Bool} {held : Bool}
set_option maxRecDepth 100000 in
theorem open_labels {r : Reach} {b0 : Nat} {v : Value} {d : DataW H} {p : List MemPlace} (hv : Value.okWide Tryd.prog X r b0 22 v) (h : DataW.Trod enc Tryd.prog X base sp held 22 v d p) :
    (∃ l, LsA X v l) ∨ ∃ x n cap, v = .slice x n cap ∧ 20 < n := by
  have hu : Tryd.prog.underlying 22 = some (.slice 24) := by kernel_rfl
  have hc : Tryd.prog.cellsOf 24 = 1 := by kernel_rfl
  have h8 : Tryd.prog.underlying 24 = some (.int .u64) := by kernel_rfl
  obtain ⟨x, l, c, rfl⟩ := okWide_slice hu hv
  by_cases h20 : 20 < l
  · exact .inr ⟨x, l, c, rfl, h20⟩
  left
  obtain ⟨fuel, hf⟩ := h
  rcases Go.Deep.open_slice1 hu hc hf with ⟨h0, _⟩ | ⟨a, len, cap, m, n, V, D, Pl, h0, hb, hl, hm, hmm, hx, hall⟩
  · simp [Value.cells] at h0
    obtain ⟨rfl, rfl, rfl⟩ := h0
    exact ⟨[], LsA.nil X⟩
  · simp [Value.cells] at h0
    obtain ⟨rfl, rfl, rfl⟩ := h0
    have hlm : l ≤ m := by rw [hmm]; split <;> omega
    have hel : ∀ i, i < l → ∃ q : Nat, q < 2 ^ 64 ∧ X.cell? (a.add i) = some (.int .u64 q) := fun i hi => by
      obtain ⟨h1, h2⟩ := hall i (by omega)
      obtain ⟨z, e, _, hw⟩ := DataW.trod_int h8 h2
      simp at e
      have hz := bounds_u64 hw
      obtain ⟨q, rfl⟩ := Int.eq_ofNat_of_zero_le hz.1
      exact ⟨q, by omega, by rw [h1, e]⟩
    obtain ⟨f, hF⟩ := Go.Deep.choose_lt (α := Nat) (p := fun i q => q < 2 ^ 64 ∧ X.cell? (a.add i) = some (.int .u64 q)) hel
    refine ⟨(List.range l).map f, some a, c, by simp, ⟨by simp; omega, fun y hy => ?_⟩, fun hne => ?_⟩
    · obtain ⟨i, hi, rfl⟩ := List.mem_map.1 hy
      exact (hF i (by simpa using hi)).1
    · have h0' : 0 < l := Nat.pos_of_ne_zero (fun h => by subst h; exact hne rfl)
      obtain ⟨b, o, spot⟩ := a
      have hspot : spot = none := by simpa [Addr.add] using World.cell?_spot (hF 0 h0').2
      subst hspot
      have hlt : b < X.heap.size := by
        have := World.block_lt_of_cell? X _ (hF 0 h0').2
        simpa [add_plain] using this
      refine ⟨b, o, rfl, hlt, fun k y hk => ?_⟩
      rw [List.getElem?_map] at hk
      have hkl : k < l := by
        rcases Nat.lt_or_ge k l with h | h
        · exact h
        · rw [List.getElem?_eq_none (by simpa using h)] at hk; cases hk
      rw [List.getElem?_range hkl] at hk
      cases hk
      have e1 := (hF k hkl).2
      rw [add_plain] at e1
      exact e1
end
set_option maxRecDepth 100000 in
theorem joins_long (x : Option Addr) (n cap : Nat) (a b : Int) (hn : 20 < n) (w : World) (hT : TZ w) :
    Calls Tryd.prog 3 #[.slice x n cap, .int .u64 a, .int .u64 b] w fun e w' => e = .returned (.bool true) ∧ Below w.heap.size w w' := by
  have hnI : (20 : Int) < (n : Int) := by omega
  have HT := Lib.hid hT
  clear hT
  go_enter Tryd.func3, Tryd.ntmps3
  go_wp2_with (first
    | (go_at_call 7; refine (works_any _ HT.out).mono ?_; rintro e w6 ⟨rfl, h6⟩) | fail)
  go_ret
  exact ⟨rfl, h6⟩
theorem joins_all {H : Type} {enc : TypeId × Value → H} {W₀ : World} {base : Nat} {sp : Nat → Bool} {held : Bool} {r : Reach} {b0 : Nat} {v : Value} {d : DataW H} {p : List MemPlace} (hv : Value.okWide Tryd.prog W₀ r b0 22 v) (h : DataW.Trod enc Tryd.prog W₀ base sp held 22 v d p) (a b : Int) (ha : (Lit.int .u64 a).wf = true) (hb : (Lit.int .u64 b).wf = true) (hT : TZ W₀) :
    Calls Tryd.prog 3 #[v, .int .u64 a, .int .u64 b] W₀ fun e w' => e = .returned (.bool true) ∧ Below W₀.heap.size W₀ w' := by
  rcases open_labels hv h with ⟨l, hl⟩ | ⟨x, n, cap, rfl, hn⟩
  · obtain ⟨y, hy, rfl⟩ := lab_nat ha
    obtain ⟨z, hz, rfl⟩ := lab_nat hb
    exact joins_walk l v y z hy hz W₀ hl hT
  · exact joins_long x n cap a b hn W₀ hT
end Go.Proofs.YtmcfccbaogjblaaDoor
