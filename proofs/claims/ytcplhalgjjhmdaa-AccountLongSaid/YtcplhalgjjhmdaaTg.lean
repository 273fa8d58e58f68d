/- A range over an iterator that keeps cells of its own and goes on till its body leaves: what such an iterator owes, and what a loop over it comes to. -/
import Derived.Test.YtcplhalgjjhmdaaSa
import Derived.RangeFuncNested
import Derived.RangeFuncBound
import Derived.RangeFuncCalls
import Derived.RangeFuncLeaves
import Derived.Shelf.Abstract
import Derived.Shelf.RegionOpen
import Derived.OwnWalkIn
import Derived.TacticsInMore
import Derived.LoopNIn
import Derived.LoopIn
namespace Go.Proofs.Ytcplhalgjjhmdaa
open Go.RowKit Go.Shelf

/-- What is said abides whatever becomes of the blocks from B on. -/
def Abide {β : Type} (B : Nat) (J : β → World → Prop) : Prop := ∀ s X Y row, J s X → X.grownBy Y row → (∀ r, row = some r → B ≤ r) → J s Y
/-- The blocks from B on are as they were. -/
def Kept (B : Nat) (X Y : World) : Prop := X.heap.size ≤ Y.heap.size ∧ ∀ k, B ≤ k → k < X.heap.size → Y.heap[k]? = X.heap[k]?
theorem Kept.refl (B : Nat) (X : World) : Kept B X X := ⟨Nat.le_refl _, fun _ _ _ => rfl⟩
theorem Kept.trans {B : Nat} {X Y Z : World} (h : Kept B X Y) (k : Kept B Y Z) : Kept B X Z := ⟨Nat.le_trans h.1 k.1, fun i hB hi => (k.2 i hB (Nat.lt_of_lt_of_le hi h.1)).trans (h.2 i hB hi)⟩
theorem Kept.mono {B C : Nat} {X Y : World} (h : Kept B X Y) (hB : B ≤ C) : Kept C X Y := ⟨h.1, fun i hi hx => h.2 i (Nat.le_trans hB hi) hx⟩
theorem Kept.below {X Y : World} (B : Nat) (h : Below X.heap.size X Y) : Kept B X Y := ⟨h.size, fun i _ hi => h.block i hi⟩
theorem Kept.alloc (B : Nat) (X : World) (o : Obj) : Kept B X (X.alloc o) := Kept.below B ((Below.refl _ X).alloc (Nat.le_refl _) o)
theorem Kept.grown {B : Nat} {X Y : World} {row : Option Nat} (h : X.grownBy Y row) (hr : ∀ r, row = some r → r < B) : Kept B X Y := ⟨h.size, fun i hB hi => h.block i hi (fun e => by have := hr i e.symm; omega)⟩
theorem Kept.set {B : Nat} (X : World) {p : Addr} (hp : p.block < B) (v : Value) : Kept B X (X.setCell p v) := ⟨by simp [World.setCell], fun i hB _ => Below.heap_setCell X p v i (by omega)⟩
theorem Kept.put {B : Nat} (X : World) {l : Nat} (o : Obj) (hl : l < B) : Kept B X (X.putObj l o) := ⟨by simp, fun i hB _ => World.putObj_heap_other (by omega)⟩
theorem below_put {n₀ : Nat} (X : World) {l : Nat} (o : Obj) (hl : n₀ ≤ l) : Below n₀ X (X.putObj l o) := ⟨rfl, rfl, rfl, by simp, fun i hi => World.putObj_heap_other (by omega)⟩
theorem grown_alloc (X : World) (o : Obj) : X.grownBy (X.alloc o) none := ⟨rfl, rfl, rfl, by simp, fun i hi _ => Below.heap_alloc X o i hi⟩
theorem grown_new {X Y : World} (h : Below X.heap.size X Y) : X.grownBy Y none := ⟨h.os, h.tape, h.output, h.size, fun i hi _ => h.block i hi⟩
theorem Abide.alloc {β : Type} {B : Nat} {J : β → World → Prop} (h : Abide B J) {s : β} {X : World} (o : Obj) (hs : J s X) : J s (X.alloc o) := h s X _ none hs (grown_alloc X o) (fun _ e => by cases e)
theorem Abide.put {β : Type} {B : Nat} {J : β → World → Prop} (h : Abide B J) {s : β} {X : World} {l : Nat} (o : Obj) (hs : J s X) (hl : B ≤ l) : J s (X.putObj l o) := h s X _ (some l) hs (grownBy_putObj' X l o) (fun r e => by cases e; exact hl)
theorem Abide.new {β : Type} {B : Nat} {J : β → World → Prop} (h : Abide B J) {s : β} {X Y : World} (hs : J s X) (k : Below X.heap.size X Y) : J s Y := h s X _ none hs (grown_new k) (fun _ e => by cases e)
theorem Abide.set {β : Type} {B : Nat} {J : β → World → Prop} (h : Abide B J) {s : β} {X : World} {g : Nat} (k : Nat) (v : Value) (hs : J s X) (hg : B ≤ g) : J s (X.setCell ⟨g, k, none⟩ v) := h s X _ (some g) hs (grown_set' (grown_refl X g) k v) (fun r e => by cases e; exact hg)
theorem Abide.mono {β : Type} {B C : Nat} {J : β → World → Prop} (h : Abide B J) (hB : B ≤ C) : Abide C J := fun s X Y row hs hg hr => h s X Y row hs hg (fun r e => Nat.le_trans hB (hr r e))
theorem Abide.and {β : Type} {B : Nat} {J K : β → World → Prop} (h : Abide B J) (k : Abide B K) : Abide B (fun s X => J s X ∧ K s X) := fun s X Y row hs hg hr => ⟨h s X Y row hs.1 hg hr, k s X Y row hs.2 hg hr⟩
theorem Abide.or {β : Type} {B : Nat} {J K : β → World → Prop} (h : Abide B J) (k : Abide B K) : Abide B (fun s X => J s X ∨ K s X) := fun s X Y row hs hg hr => hs.elim (fun a => .inl (h s X Y row a hg hr)) (fun a => .inr (k s X Y row a hg hr))
theorem Abide.pure {β : Type} (B : Nat) (p : β → Prop) : Abide B (fun s (_ : World) => p s) := fun _ _ _ _ hs _ _ => hs
theorem Abide.comp {β γ : Type} {B : Nat} {J : β → World → Prop} (h : Abide B J) (f : γ → β) : Abide B (fun s X => J (f s) X) := fun s X Y row hs hg hr => h (f s) X Y row hs hg hr
theorem Abide.blk {β : Type} {B g : Nat} (hg : g < B) (t : TypeId) (f : β → Array Value) : Abide B (fun s X => Blk X g t (f s)) := fun _ _ _ _ hs hw hr => hs.kept hw (fun e => by have := hr g e.symm; omega)
theorem Abide.below {β : Type} {B n₀ : Nat} {w : World} (hn : n₀ ≤ w.heap.size) (hB : n₀ ≤ B) : Abide B (fun (_ : β) X => Below n₀ w X) := fun _ _ _ _ hs hw hr => hs.grown hw (Nat.le_trans hn hs.size) (fun k e => Nat.le_trans hB (hr k e))
theorem Abide.heap {β : Type} {B g : Nat} (hg : g < B) (o : β → Obj) : Abide B (fun s X => X.heap[g]? = some (o s)) := fun _ _ _ _ hs hw hr => (hw.block g (Array.getElem?_eq_some_iff.1 hs).1 (fun e => by have := hr g e.symm; omega)).trans hs
theorem Abide.ex {β γ : Type} {B : Nat} {J : γ → β → World → Prop} (h : ∀ c, Abide B (J c)) : Abide B (fun s X => ∃ c, J c s X) := fun s X Y row ⟨c, hs⟩ hg hr => ⟨c, h c s X Y row hs hg hr⟩

theorem room_of_none {F : Fence} (hd : F.depth = none) (k : Nat) : F.room k := fun d h => by rw [hd] at h; cases h
/-- At the wide fence a round wants no room. -/
theorem YieldAt.wide {m m' : Nat} {P : Program} {l : Nat} {args : Array Value} {X : World} {R : Ending → World → Prop} (h : YieldAt Fence.wide m P l args X R) : YieldAt Fence.wide m' P l args X R := by
  obtain ⟨fn, tmps, assign, body, hy, hR⟩ := h
  exact ⟨fn, tmps, assign, body, hy, hR.1, fun c cs _ => hR.2 c cs (room_of_none rfl _)⟩

/-- What an iterator owes. Bd: what the caller knows of all that has come between two rounds; Gd: what it is told of what comes next. -/
def SeqB {α : Type} (n : Nat) (P : Program) (g : Nat) (lb : Array Value) (encs : α → Array Value) (n₀ : Nat) (Bd : List α → Prop) (Gd : List α → α → Prop) (S Sp : List α → Prop) (w : World) : Prop :=
  ∀ (l : Nat) (J Jx : List α → World → Prop) (W : World), Below w.heap.size w W → Abide W.heap.size J → Abide W.heap.size Jx → (∀ pre X, J pre X → Bd pre) →
    (∀ pre x X, Gd pre x → J pre X → YieldAt Fence.wide 0 P l (encs x) X fun e Y => (e = .returned (.bool true) ∧ J (pre ++ [x]) Y ∧ Kept W.heap.size X Y ∧ Below n₀ X Y) ∨ (e = .returned (.bool false) ∧ Jx (pre ++ [x]) Y ∧ Kept W.heap.size X Y)) →
    J [] W →
    CallsIn Fence.wide n P g (#[.func (.yield l) #[] #[]] ++ lb) W fun e Y => (∃ v, e = .returned v) ∧ ((∃ xs, S xs ∧ J xs Y) ∨ (∃ pre, Sp pre ∧ Jx pre Y))

/-- How a round's body may end. -/
def postB {α : Type} (B n₀ : Nat) (I : List α → World → Prop) (Ix : Code → List α → World → Prop) (xs : List α) (X : World) : Exit → Act → World → Prop
  | .normal, _, Y => Kept B X Y ∧ Below n₀ X Y ∧ I xs Y
  | .ret, _, Y => Kept B X Y ∧ Ix .ret xs Y
  | .exit id, _, Y => Kept B X Y ∧ Ix (.exit id) xs Y
  | .goto t, _, Y => Kept B X Y ∧ Ix (.goto t) xs Y
  | .panic _, _, _ => False
  | .outgrown, _, _ => False

theorem wpIn_rangeB {P : Program} {α : Type} {n : Nat} {g : Operand} {ps : Array Tmp} {assign body : Code} {Q : Exit → Act → World → Prop} {a : Act} {w : World}
    (h1 : 1 ≤ n) {gf : Nat} {lb : Array Value} (hg : a.eval g = .func (.func gf) #[] lb) (eg : ∀ args w, (callFunc gf args).run P w = .ok (.enter gf args) w)
    {encs : α → Array Value} {n₀ : Nat} {Bd : List α → Prop} {Gd : List α → α → Prop} {S Sp : List α → Prop} {w0 : World} (hseq : SeqB (n - 1) P gf lb encs n₀ Bd Gd S Sp w0) (hb0 : Below w0.heap.size w0 w) (hn₀ : n₀ ≤ w.heap.size) (hps : ∀ x, (encs x).size = ps.size)
    (I : List α → World → Prop) (Ix : Code → List α → World → Prop) (hI : Abide w.heap.size I) (hIx : ∀ c, Abide w.heap.size (Ix c)) (hBd : ∀ pre X, I pre X → Bd pre) (h0 : I [] w)
    (Ax : α → Act → World → Prop) (hAx : ∀ x a', OwnFrom w.heap.size (fun (_ : Unit) X => Ax x a' X))
    (hassign : ∀ (l : Nat) (pre : List α) (x : α) (X : World) (K : Act → World → Prop), Gd pre x → I pre X → (∀ a' Y, Kept w.heap.size X Y → Below n₀ X Y → I pre Y → Ax x a' Y → K a' Y) →
      assign.wpIn (Fence.wide.inRound l) (n - 1 - 1) P (Exit.then K (fun _ _ _ => False)) { tmps := (ps.zip (encs x)).foldl (fun t (p, v) => t.setIfInBounds p v) a.tmps, defers := [] } X)
    (hbody : ∀ (l : Nat) (pre : List α) (x : α) (a' : Act) (X : World), w.heap.size ≤ l → Gd pre x → (∃ r, X.heap[l]? = some (.loop r)) → I pre X → Ax x a' X → body.wpIn (Fence.wide.inRound l) (n - 1 - 1) P (postB w.heap.size n₀ I Ix (pre ++ [x]) X) a' X)
    (hdone : ∀ (D : Nat) (xs : List α) (X : World), w.heap.size ≤ D → S xs → I xs X → X.heap[D]? = some (.deferred (some [])) → Q .normal { a with defers := { target := .collected D, args := #[] } :: a.defers } X)
    (hstop : ∀ (D : Nat) (c : Code) (pre : List α) (X : World), w.heap.size ≤ D → Sp pre → Ix c pre X → X.heap[D]? = some (.deferred (some [])) → c.wpIn Fence.wide n P Q { a with defers := { target := .collected D, args := #[] } :: a.defers } X) :
    (Code.rangeFunc g ps assign body).wpIn Fence.wide n P Q a w := by
  refine wpIn_rangeFunc (fun fn hfn => ?_)
  have hro : Fence.wide.round = none := rfl
  rw [hro]
  let R : LoopState → Option Code → Loop := fun st pe => { state := st, pending := pe, fn, tmps := a.tmps, params := ps, assign, body, defers := w.heap.size }
  obtain ⟨V, hV⟩ : ∃ V, (w.alloc (.deferred (some []))).alloc (.loop (R .ready none)) = V := ⟨_, rfl⟩
  have hVs : V.heap.size = w.heap.size + 2 := by rw [← hV]; simp
  have hwV : Below w.heap.size w V := by rw [← hV]; exact ((Below.refl _ w).alloc (Nat.le_refl _) _).alloc (by simp) _
  have hVl : V.heap[w.heap.size + 1]? = some (.loop (R .ready none)) := by
    rw [← hV]; have := World.alloc_heap_new (w.alloc (.deferred (some []))) (.loop (R .ready none)); rwa [World.size_alloc] at this
  have hVd : V.heap[w.heap.size]? = some (.deferred (some [])) := by
    rw [← hV]; exact (Below.heap_alloc _ _ _ (by simp)).trans (World.alloc_heap_new w _)
  have hVI : I [] V := hI.new h0 hwV
  refine ⟨w.heap.size + 1, [{ target := .collected w.heap.size, args := #[] }], V, { target := .fn (.func gf) lb, args := #[.func (.yield (w.heap.size + 1)) #[] #[]] }, V, gf, #[.func (.yield (w.heap.size + 1)) #[] #[]] ++ lb, V, ?_, ?_, fun _ _ => trivial, ?_, fun _ => h1, ?_⟩
  · rw [← hV]; exact run_enterLoop_outer _ _ _ _ _
  · simp only [resolve, hg]; simp [go_sem]
  · simp [invoke, go_sem, eg]
  refine (hseq (w.heap.size + 1)
    (fun pre X => (I pre X ∧ X.heap[w.heap.size + 1]? = some (.loop (R .ready none))) ∧ X.heap[w.heap.size]? = some (.deferred (some [])))
    (fun pre X => ∃ c, (Ix c pre X ∧ X.heap[w.heap.size + 1]? = some (.loop (R .done (some c)))) ∧ X.heap[w.heap.size]? = some (.deferred (some [])))
    V (hb0.trans (hwV.mono hb0.size))
    (((hI.mono (by omega)).and (Abide.heap (by omega) (fun _ => _))).and (Abide.heap (by omega) (fun _ => _)))
    (Abide.ex fun c => (((hIx c).mono (by omega)).and (Abide.heap (by omega) (fun _ => _))).and (Abide.heap (by omega) (fun _ => _)))
    (fun pre X h => hBd pre X h.1.1) ?_ ⟨⟨hVI, hVl⟩, hVd⟩).mono ?_
  · rintro pre x X hgd ⟨⟨hi, hl⟩, hk⟩
    have hll : w.heap.size + 1 < X.heap.size := (Array.getElem?_eq_some_iff.1 hl).1
    refine ⟨fn, _, assign, body, run_yield hl (hps x), ?_⟩
    refine RoundIn.mono (R := _) ?_ (fun _ _ h => h)
    suffices h : RoundIn Fence.wide (n - 1 - 1) P (w.heap.size + 1) fn ((ps.zip (encs x)).foldl (fun t (p, v) => t.setIfInBounds p v) a.tmps) assign body X _ from ⟨h.1, fun c cs _ => h.2 c cs (room_of_none rfl _)⟩
    refine roundIn_of_wpIn hfn (hassign _ pre x X _ hgd hi (fun a' Y hkY hbY hiY hax => ?_))
    have hlY : Y.heap[w.heap.size + 1]? = some (.loop (R .ready none)) := (hkY.2 _ (by omega) hll).trans hl
    have hkY2 : Y.heap[w.heap.size]? = some (.deferred (some [])) := (hkY.2 _ (Nat.le_refl _) (by omega)).trans hk
    refine ⟨_, run_beginRound hlY rfl, ?_⟩
    have hYl : w.heap.size + 1 < Y.heap.size := Nat.lt_of_lt_of_le hll hkY.1
    obtain ⟨Z, hZ⟩ : ∃ Z, Y.putObj (w.heap.size + 1) (.loop (R .busy none)) = Z := ⟨_, rfl⟩
    have hZ' : Y.putObj (w.heap.size + 1) (.loop { R .ready none with state := .busy }) = Z := hZ
    rw [hZ']
    have hZl : Z.heap[w.heap.size + 1]? = some (.loop (R .busy none)) := by rw [← hZ]; exact World.putObj_heap_same hYl
    have hZd : Z.heap[w.heap.size]? = some (.deferred (some [])) := by rw [← hZ]; exact (World.putObj_heap_other (by omega)).trans hkY2
    have hZI : I pre Z := by rw [← hZ]; exact hI.put _ hiY (by omega)
    have hZA : Ax x a' Z := by rw [← hZ]; exact (hAx x a').putObj (s := ()) _ hax (by omega) hlY rfl
    have hZb : Below n₀ Y Z := by rw [← hZ]; exact below_put Y _ (by omega)
    have hZk : Kept V.heap.size Y Z := by rw [← hZ]; exact Kept.put Y _ (by omega)
    have hZs : Z.heap.size = Y.heap.size := by rw [← hZ]; simp
    have fin : ∀ (jump : Option Code) (T : World), Kept w.heap.size Z T → ∃ U, (Instr.endRound (w.heap.size + 1) jump).run P T = .ok (.bool jump.isNone) U ∧ U = T.putObj (w.heap.size + 1) (.loop (R (if jump.isNone then .ready else .done) jump)) ∧
        U.heap[w.heap.size + 1]? = some (.loop (R (if jump.isNone then .ready else .done) jump)) ∧ U.heap[w.heap.size]? = some (.deferred (some [])) := fun jump T hT => by
      have hTl : T.heap[w.heap.size + 1]? = some (.loop (R .busy none)) := (hT.2 _ (by omega) (by omega)).trans hZl
      have hTd : T.heap[w.heap.size]? = some (.deferred (some [])) := (hT.2 _ (Nat.le_refl _) (by omega)).trans hZd
      refine ⟨_, run_endRound jump hTl, rfl, World.putObj_heap_same (Array.getElem?_eq_some_iff.1 hTl).1, (World.putObj_heap_other (by omega)).trans hTd⟩
    refine wpIn_mono (hbody _ pre x a' Z (by omega) hgd ⟨_, hZl⟩ hZI hZA) ?_
    rintro e a3 T hp
    cases e with
    | normal =>
      obtain ⟨hkT, hbT, hiT⟩ := hp
      obtain ⟨U, hr, hU, hUl, hUd⟩ := fin none T hkT
      refine ⟨_, _, hr, .inl ⟨rfl, ⟨⟨by rw [hU]; exact hI.put _ hiT (by omega), hUl⟩, hUd⟩, ?_, ?_⟩⟩
      · exact (hkY.mono (by omega)).trans (hZk.trans ((hkT.mono (by omega)).trans (by rw [hU]; exact Kept.put T _ (by omega))))
      · exact hbY.trans (hZb.trans (hbT.trans (by rw [hU]; exact below_put T _ (by omega))))
    | ret =>
      obtain ⟨U, hr, hU, hUl, hUd⟩ := fin (some .ret) T hp.1
      exact ⟨_, _, hr, .inr ⟨rfl, ⟨.ret, ⟨by rw [hU]; exact (hIx _).put _ hp.2 (by omega), hUl⟩, hUd⟩, (hkY.mono (by omega)).trans (hZk.trans ((hp.1.mono (by omega)).trans (by rw [hU]; exact Kept.put T _ (by omega))))⟩⟩
    | exit id =>
      obtain ⟨U, hr, hU, hUl, hUd⟩ := fin (some (.exit id)) T hp.1
      exact ⟨_, _, hr, .inr ⟨rfl, ⟨.exit id, ⟨by rw [hU]; exact (hIx _).put _ hp.2 (by omega), hUl⟩, hUd⟩, (hkY.mono (by omega)).trans (hZk.trans ((hp.1.mono (by omega)).trans (by rw [hU]; exact Kept.put T _ (by omega))))⟩⟩
    | goto t =>
      obtain ⟨U, hr, hU, hUl, hUd⟩ := fin (some (.goto t)) T hp.1
      exact ⟨_, _, hr, .inr ⟨rfl, ⟨.goto t, ⟨by rw [hU]; exact (hIx _).put _ hp.2 (by omega), hUl⟩, hUd⟩, (hkY.mono (by omega)).trans (hZk.trans ((hp.1.mono (by omega)).trans (by rw [hU]; exact Kept.put T _ (by omega))))⟩⟩
    | panic ch => exact hp.elim
    | outgrown => exact hp.elim
  · rintro e X ⟨⟨v, rfl⟩, (⟨xs, hS, ⟨hi, hl⟩, hk⟩ | ⟨pre, hSp, c, ⟨hi, hl⟩, hk⟩)⟩
    · exact ⟨none, _, run_endLoop hl (by simp [R]), hdone _ xs _ (Nat.le_refl _) hS (hI.put _ hi (by omega)) ((World.putObj_heap_other (by omega)).trans hk)⟩
    · exact ⟨some c, _, run_endLoop hl (by simp [R]), hstop _ c pre _ (Nat.le_refl _) hSp ((hIx c).put _ hi (by omega)) ((World.putObj_heap_other (by omega)).trans hk)⟩
end Go.Proofs.Ytcplhalgjjhmdaa
