/- label: a Builder that the call itself has made, written in a loop: the rows of its bytes lie from a base on. -/
import Derived.Test.YtcdmaapjcckbmaaDoorGa
import Derived.Shelf.Strings.BuilderK
import Derived.Lib.Builder
import Derived.Lib.AppendStr
import Derived.Lib.UnsafeStr
import Derived.Laws.Externs
import Derived.Lib.FrozenHead
import Derived.Lib.OthersKept
namespace Go.Proofs.YtcdmaapjcckbmaaDoor
open Go.RowKit Go.Shelf

theorem infoByte : (Tryd.prog.info? 5).map (fun i => (i.zero, i.size, i.bytes)) = some (some (.int .u8 0), 1, 1) := by kernel_rfl
theorem infoBuilder : (Tryd.prog.info? 80).map (·.size) = some 2 := by kernel_rfl
theorem undPB : Tryd.prog.underlying 78 = some (.pointer 80) := by kernel_rfl
theorem undUP : Tryd.prog.underlying 111 = some .unsafePointer := by kernel_rfl
theorem undBy : Tryd.prog.underlying 32 = some (.slice 5) := by kernel_rfl
theorem undStr : Tryd.prog.underlying 9 = some .string := by kernel_rfl

set_option maxRecDepth 100000 in
set_option maxHeartbeats 1000000 in
theorem cc_used (b : Nat) (w : World) (h0 : w.cell? ⟨b, 0, none⟩ = some (.pointer (some ⟨b, 0, none⟩))) :
    Calls Tryd.prog 69 #[.pointer (some ⟨b, 0, none⟩)] w fun e w' => e = .returned (.tuple #[]) ∧ w = w' := by
  obtain ⟨j, hj, -⟩ := Option.map_eq_some_iff.1 infoBuilder
  have hne : ∀ w', (binOp .neq 78 (.pointer (some ⟨b, 0, none⟩)) (.pointer (some ⟨b, 0, none⟩))).run Tryd.prog w' = .ok (.bool false) w' := fun w' => Lib.run_neq_ptr_same w' _ undPB hj
  go_enter Tryd.func69, Tryd.ntmps69
  go_wp2
  go_end0
  exact ⟨rfl, rfl⟩

set_option maxRecDepth 100000 in
set_option maxHeartbeats 1000000 in
theorem cc_fresh (b : Nat) (v : Value) (w : World) (hb : w.heap[b]? = some (.cells #[.pointer none, v] 80 (0, 0))) :
    Calls Tryd.prog 69 #[.pointer (some ⟨b, 0, none⟩)] w fun e w' => e = .returned (.tuple #[]) ∧ w' = w.setCell ⟨b, 0, none⟩ (.pointer (some ⟨b, 0, none⟩)) := by
  obtain ⟨j, hj, hjs⟩ := Option.map_eq_some_iff.1 infoBuilder
  have h0 : w.cell? ⟨b, 0, none⟩ = some (.pointer none) := by rw [Lib.cell_of_heap hb]; rfl
  have hfz : w.frozen? ⟨b, 0, none⟩ = false := Lib.frozen_of_heap hb 0
  have hsh : w.shape? b = some (80, 2) := by simp [World.shape?, hb]
  have g1 : (convert 78 111 (.pointer (some ⟨b, 0, none⟩))).run Tryd.prog w = .ok (.pointer (some ⟨b, 0, none⟩)) w := Lib.run_to_unsafe w ⟨b, 0, none⟩ undPB undUP hj (by rw [hjs]; decide) hsh (Nat.zero_lt_succ 1)
  have g2 : (convert 111 78 (.pointer (some ⟨b, 0, none⟩))).run Tryd.prog w = .ok (.pointer (some ⟨b, 0, none⟩)) w := Lib.run_from_unsafe w ⟨b, 0, none⟩ undUP undPB hj hsh (by kernel_rfl)
  have g3 : (callFunc 77 #[.pointer (some ⟨b, 0, none⟩)]).run Tryd.prog w = .ok (.value (.pointer (some ⟨b, 0, none⟩))) w := by
    rw [run_callFunc_extern Tryd.func77 (by kernel_rfl) (by kernel_rfl) (by kernel_rfl) (e := Extern.AbiNoEscape.same) (by kernel_rfl)]
    rw [Lib.run_noEscape]
    rfl
  go_enter Tryd.func69, Tryd.ntmps69
  go_wp2
  go_end0
  exact ⟨rfl, rfl⟩

/-- A Builder in block b, made by the call itself, holding the bytes l; its row lies from B2 on. -/
def Bu (b B2 : Nat) (l : List UInt8) (X : World) : Prop :=
  ∃ p v, X.heap[b]? = some (.cells #[p, v] 80 (0, 0)) ∧ (p = .pointer none ∨ p = .pointer (some ⟨b, 0, none⟩)) ∧ X.ownsRow B2 5 1 v l.length (Lib.byteCells l)
/-- .. written to already. -/
def Bw (b B2 : Nat) (l : List UInt8) (X : World) : Prop :=
  ∃ v, X.heap[b]? = some (.cells #[.pointer (some ⟨b, 0, none⟩), v] 80 (0, 0)) ∧ X.ownsRow B2 5 1 v l.length (Lib.byteCells l)
theorem Bw.bu {b B2 : Nat} {l : List UInt8} {X : World} (h : Bw b B2 l X) : Bu b B2 l X := by
  obtain ⟨v, h1, h2⟩ := h
  exact ⟨_, v, h1, .inr rfl, h2⟩
theorem Bu.lt {b B2 : Nat} {l : List UInt8} {X : World} (h : Bu b B2 l X) : b < X.heap.size := by
  obtain ⟨p, v, h1, _⟩ := h
  exact (Array.getElem?_eq_some_iff.1 h1).1
theorem Bu.new (X : World) (b : Nat) (hb : X.heap[b]? = some (.cells #[.pointer none, .slice none 0 0] 80 (0, 0))) (B2 : Nat) : Bu b B2 [] X :=
  ⟨_, _, hb, .inl rfl, World.ownsRow_nil _ _ _ _⟩
theorem own_ne {X : World} {B2 : Nat} {v : Value} {n : Nat} {xs : List Value} {b : Nat} {cs : Array Value} (hown : X.ownsRow B2 5 1 v n xs) (hb : X.heap[b]? = some (.cells cs 80 (0, 0))) : v.ownBlock ≠ some b := Lib.ownBlock_ne hown hb (by decide)
theorem Bu.kept {b B2 : Nat} {l : List UInt8} {X Y : World} {row : Option Nat} (h : Bu b B2 l X) (hg : X.grownBy Y row) (hr : ∀ r, row = some r → r ≠ b ∧ r < B2) : Bu b B2 l Y := by
  obtain ⟨p, v, h1, h2, h3⟩ := h
  refine ⟨p, v, (hg.block b (Array.getElem?_eq_some_iff.1 h1).1 (fun e => (hr b e.symm).1 rfl)).trans h1, h2, h3.kept hg ?_⟩
  cases hv : v.ownBlock with
  | none => exact .inl rfl
  | some k => exact .inr fun e => by have := (h3.lt k hv).1; have := (hr k e.symm).2; omega
theorem Bu.is {b B2 : Nat} {l : List UInt8} {X : World} (h : Bu b B2 l X) (hB : b ≤ B2) : Lib.IsBuilder 80 5 b b (Lib.byteCells l) X := by
  obtain ⟨p, v, h1, h2, h3⟩ := h
  have h4 : X.ownsRow b 5 1 v (Lib.byteCells l).length (Lib.byteCells l) := by rw [Lib.byteCells_length]; exact owns_mono h3 hB
  rcases h2 with rfl | rfl
  · exact .inl ⟨Nat.le_refl _, v, h1, h4, own_ne h3 h1⟩
  · exact .inr ⟨Nat.le_refl _, v, h1, h4, own_ne h3 h1⟩

/-- The blocks below B2 but b are as they were. -/
def KpB (b B2 : Nat) (X Y : World) : Prop := Below b X Y ∧ ∀ k, k ≠ b → k < B2 → k < X.heap.size → Y.heap[k]? = X.heap[k]?
theorem KpB.refl (b B2 : Nat) (X : World) : KpB b B2 X X := ⟨Below.refl _ _, fun _ _ _ _ => rfl⟩
theorem KpB.trans {b B2 : Nat} {X Y Z : World} (h : KpB b B2 X Y) (k : KpB b B2 Y Z) : KpB b B2 X Z :=
  ⟨h.1.trans k.1, fun i h1 h2 h3 => (k.2 i h1 h2 (Nat.lt_of_lt_of_le h3 h.1.size)).trans (h.2 i h1 h2 h3)⟩
theorem KpB.set {b B2 : Nat} {X Y : World} (h : KpB b B2 X Y) (j : Nat) (v : Value) : KpB b B2 X (Y.setCell ⟨b, j, none⟩ v) :=
  ⟨h.1.setCell (p := ⟨b, j, none⟩) (Nat.le_refl _) _, fun i h1 h2 h3 => (Below.heap_setCell _ ⟨b, j, none⟩ _ i h1).trans (h.2 i h1 h2 h3)⟩
theorem KpB.grown {b B2 : Nat} {X Y Z : World} {row : Option Nat} (h : KpB b B2 X Y) (hg : Y.grownBy Z row) (hb : b < X.heap.size) (hB : b < B2) (hr : ∀ r, row = some r → B2 ≤ r) : KpB b B2 X Z :=
  ⟨h.1.grown hg (Nat.le_trans (Nat.le_of_lt hb) h.1.size) (fun k e => Nat.le_trans (Nat.le_of_lt hB) (hr k e)), fun i h1 h2 h3 => (hg.block i (Nat.lt_of_lt_of_le h3 h.1.size) (fun e => by have := hr i e.symm; omega)).trans (h.2 i h1 h2 h3)⟩
theorem KpB.alloc {b B2 : Nat} {X Y : World} (h : KpB b B2 X Y) (hb : b < X.heap.size) (hB : b < B2) (o : Obj) : KpB b B2 X (Y.alloc o) := h.grown (grown_alloc Y o) hb hB (fun _ e => by cases e)

theorem cc_any (b B2 : Nat) (l : List UInt8) (w : World) (h : Bu b B2 l w) :
    Calls Tryd.prog 69 #[.pointer (some ⟨b, 0, none⟩)] w fun e w' => e = .returned (.tuple #[]) ∧ Bw b B2 l w' ∧ KpB b B2 w w' := by
  obtain ⟨p, v, h1, h2, h3⟩ := h
  rcases h2 with rfl | rfl
  · refine (cc_fresh b v w h1).mono ?_
    rintro e w' ⟨rfl, rfl⟩
    refine ⟨rfl, ⟨v, ?_, ?_⟩, (KpB.refl _ _ _).set 0 _⟩
    · simp [World.setCell, Array.getElem?_modify, h1]
    · exact h3.kept (row := some b) (grown_set' (grown_refl w b) 0 _) (.inr (own_ne h3 h1))
  · refine (cc_used b w (by rw [Lib.cell_of_heap h1]; rfl)).mono ?_
    rintro e w' ⟨rfl, rfl⟩
    exact ⟨rfl, ⟨v, h1, h3⟩, KpB.refl _ _ _⟩

theorem cells_app (l : List UInt8) (s : ByteArray) : Lib.byteCells l ++ Lib.strCells s = Lib.byteCells (l ++ s.data.toList) := by simp [Lib.byteCells, Lib.strCells]

set_option maxRecDepth 100000 in
set_option maxHeartbeats 1000000 in
/-- WriteString. -/
theorem ws_any (b B2 : Nat) (l : List UInt8) (s : ByteArray) (w : World) (h : Bu b B2 l w) (hB : b < B2) (hw : B2 ≤ w.heap.size) (hlen : l.length + s.size ≤ 100000) :
    Calls Tryd.prog 49 #[.pointer (some ⟨b, 0, none⟩), .string s] w fun e w' => e = .returned (.tuple #[.int .i64 s.size, .nilIface]) ∧ Bw b B2 (l ++ s.data.toList) w' ∧ KpB b B2 w w' := by
  obtain ⟨i0, hi, hz0, hz1, hz2⟩ := info_parts infoByte
  have HL := Lib.hid hlen
  have HBW := Lib.hid (And.intro hB hw)
  have hbl := Lib.hid h.lt
  clear hlen hB hw
  go_enter Tryd.func49, Tryd.ntmps49
  go_wp2_with fail
  refine (cc_any b B2 l _ h).mono ?_
  rintro e w1 ⟨rfl, ⟨v, hbk, hown⟩, hk1⟩
  have c0 : w1.cell? ⟨b, 0, none⟩ = some (.pointer (some ⟨b, 0, none⟩)) := by rw [Lib.cell_of_heap hbk]; rfl
  have c1 : w1.cell? ⟨b, 1, none⟩ = some v := by rw [Lib.cell_of_heap hbk]; rfl
  have hsz := hk1.1.size
  have hBK := Lib.hid hbk
  have HK := Lib.hid hk1
  clear hbk hk1 h
  go_wp2_with (at_builtin; refine Lib.wpList_append_own_string _ rfl _ _ 32 9 rfl B2 5 i0 undBy undStr hi hz0 hz1 hz2 _ _ _ rfl hown s rfl ?c3 ?c4 ?c5 ?_)
  case c3 => have := HL.out; unfold maxLen; omega
  case c4 => have := HL.out; omega
  case c5 => have := HBW.out; omega
  intro v' w2 hown' hgrow _
  have hlt : b < w1.heap.size := (Array.getElem?_eq_some_iff.1 hBK.out).1
  have hne := own_ne hown hBK.out
  have hb2 : w2.heap[b]? = some (.cells #[.pointer (some ⟨b, 0, none⟩), v] 80 (0, 0)) := (hgrow.block b hlt (fun e => hne e.symm)).trans hBK.out
  have d0 : w2.cell? ⟨b, 0, none⟩ = some (.pointer (some ⟨b, 0, none⟩)) := by rw [Lib.cell_of_heap hb2]; rfl
  have d1 : w2.cell? ⟨b, 1, none⟩ = some v := by rw [Lib.cell_of_heap hb2]; rfl
  have f1 : w2.frozen? ⟨b, 1, none⟩ = false := Lib.frozen_of_heap hb2 1
  obtain ⟨x, cap, rfl, -⟩ := owns_slice hown'
  have HX := Lib.hid (And.intro hown (And.intro hown' (And.intro hgrow hb2)))
  clear hown hown' hgrow hb2 c0 c1 hi hz0 hz1 hz2 hne hsz hlt
  go_wp2
  go_ret2
  obtain ⟨hown, hown', hgrow, hb2⟩ := HX.out
  refine ⟨rfl, ⟨.slice x (l.length + s.size) cap, ?_, ?_⟩, (HK.out.grown hgrow hbl.out HBW.out.1 (fun k hk => (hown.lt k hk).1)).set 1 _⟩
  · simp [World.setCell, Array.getElem?_modify, hb2]
  · rw [List.length_append, show s.data.toList.length = s.size by simp, ← cells_app]
    exact hown'.kept (row := some b) (grown_set' (grown_refl w2 b) 1 _) (.inr (own_ne hown' hb2))

/-- The program's types and function in the library's numbering. -/
def ren169 : Go.Shelf.Ren := ⟨fun | 169 => 50 | n => n, fun | 0 => 0 | 3 => 3 | 5 => 5 | 9 => 9 | 37 => 32 | 70 => 78 | 72 => 80 | 127 => 100 | n => n, fun n => n⟩
theorem lays169 : Go.Proofs.Lays.n169 Tryd.prog ren169 := {
  mixed := by kernel_rfl
  f169 := Tryd.func50.trans (congrArg some (by kernel_rfl))
  t0 := Tryd.underlying0
  a0 := Tryd.isAgg0
  z0 := Tryd.sizeOf0
  v0 := Tryd.zeroValue0
  t3 := Tryd.underlying3
  a3 := Tryd.isAgg3
  z3 := Tryd.sizeOf3
  v3 := Tryd.zeroValue3
  t9 := Tryd.underlying9
  a9 := Tryd.isAgg9
  z9 := Tryd.sizeOf9
  v9 := Tryd.zeroValue9
  t37 := Tryd.underlying32
  a37 := Tryd.isAgg32
  z37 := Tryd.sizeOf32
  v37 := Tryd.zeroValue32
  t70 := Tryd.underlying78
  a70 := Tryd.isAgg78
  z70 := Tryd.sizeOf78
  v70 := Tryd.zeroValue78
  t72 := Tryd.underlying80
  a72 := Tryd.isAgg80
  z72 := Tryd.sizeOf80
  v72 := Tryd.zeroValue80
  t127 := Tryd.underlying100
  a127 := Tryd.isAgg100
  z127 := Tryd.sizeOf100
  v127 := Tryd.zeroValue100 }
theorem extra169 : Builder.Extra Tryd.prog ren169 := {
  sizeBuilder := by kernel_rfl
  liesBuilder := by kernel_rfl
  t5 := Tryd.underlying5
  a5 := Tryd.isAgg5
  z5 := Tryd.sizeOf5
  v5 := Tryd.zeroValue5
  infoByte := by kernel_rfl
  cellsByte := by kernel_rfl
  sizeByte := by kernel_rfl
  neB5 := by decide }
/-- String. -/
theorem bs_any (b B2 : Nat) (l : List UInt8) (w : World) (h : Bu b B2 l w) (hB : b ≤ B2) :
    Calls Tryd.prog 50 #[.pointer (some ⟨b, 0, none⟩)] w fun e w' => e = .returned (.string ⟨l.toArray⟩) ∧ Below b w w' ∧ ∀ D : Nat, w.heap[D]? = some (Obj.deferred (some [])) → w'.heap[D]? = some (Obj.deferred (some [])) :=
  (Any.Builder_String_any_k lays169 extra169 b b l w (Lib.IsBuilderF.of (h.is hB)) (Nat.le_of_lt h.lt)).mono fun e w' ⟨h1, _, h2, h3⟩ => ⟨h1, h2, fun D hD => h3 D _ hD (fun e => by
    have e2 : D = b := by simpa using e
    subst e2
    obtain ⟨p, v, hb, _⟩ := h
    rw [hD] at hb; cases hb) (fun c fz e => by cases e)⟩
end Go.Proofs.YtcdmaapjcckbmaaDoor
