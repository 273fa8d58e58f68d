/- A range over an iterator that writes blocks of a known set and new ones alone: what the body makes, stays. -/
import Derived.Test.YtcplhalgjjhmdaaTg
namespace Go.Proofs.Ytcplhalgjjhmdaa
open Go.RowKit Go.Shelf

/-- What is said stays whatever becomes of the blocks in M. -/
def StayM {β : Type} (M : Nat → Prop) (J : β → World → Prop) : Prop := ∀ s X Y row, J s X → X.grownBy Y row → (∀ r, row = some r → M r) → J s Y
/-- The blocks in M are as they were. -/
def KeptM (M : Nat → Prop) (X Y : World) : Prop := X.heap.size ≤ Y.heap.size ∧ ∀ k, M k → k < X.heap.size → Y.heap[k]? = X.heap[k]?
theorem KeptM.refl (M : Nat → Prop) (X : World) : KeptM M X X := ⟨Nat.le_refl _, fun _ _ _ => rfl⟩
theorem KeptM.trans {M : Nat → Prop} {X Y Z : World} (h : KeptM M X Y) (k : KeptM M Y Z) : KeptM M X Z := ⟨Nat.le_trans h.1 k.1, fun i hB hi => (k.2 i hB (Nat.lt_of_lt_of_le hi h.1)).trans (h.2 i hB hi)⟩
theorem KeptM.mono {M N : Nat → Prop} {X Y : World} (h : KeptM M X Y) (hM : ∀ k, N k → M k) : KeptM N X Y := ⟨h.1, fun i hi hx => h.2 i (hM i hi) hx⟩
theorem KeptM.grown {M : Nat → Prop} {X Y : World} {row : Option Nat} (h : X.grownBy Y row) (hr : ∀ r, row = some r → ¬ M r) : KeptM M X Y := ⟨h.size, fun i hB hi => h.block i hi (fun e => hr i e.symm hB)⟩
theorem KeptM.new {M : Nat → Prop} {X Y : World} (h : Below X.heap.size X Y) : KeptM M X Y := ⟨h.size, fun i _ hi => h.block i hi⟩
theorem KeptM.alloc (M : Nat → Prop) (X : World) (o : Obj) : KeptM M X (X.alloc o) := KeptM.grown (grown_alloc X o) (fun _ e => by cases e)
theorem KeptM.put {M : Nat → Prop} (X : World) {l : Nat} (o : Obj) (hl : ¬ M l) : KeptM M X (X.putObj l o) := ⟨by simp, fun i hB _ => World.putObj_heap_other (fun e => hl (e ▸ hB))⟩
theorem StayM.new {β : Type} {M : Nat → Prop} {J : β → World → Prop} (h : StayM M J) {s : β} {X Y : World} (hs : J s X) (k : Below X.heap.size X Y) : J s Y := h s X _ none hs (grown_new k) (fun _ e => by cases e)
theorem StayM.alloc {β : Type} {M : Nat → Prop} {J : β → World → Prop} (h : StayM M J) {s : β} {X : World} (o : Obj) (hs : J s X) : J s (X.alloc o) := h s X _ none hs (grown_alloc X o) (fun _ e => by cases e)
theorem StayM.put {β : Type} {M : Nat → Prop} {J : β → World → Prop} (h : StayM M J) {s : β} {X : World} {l : Nat} (o : Obj) (hs : J s X) (hl : M l) : J s (X.putObj l o) := h s X _ (some l) hs (grownBy_putObj' X l o) (fun r e => by cases e; exact hl)
theorem StayM.mono {β : Type} {M N : Nat → Prop} {J : β → World → Prop} (h : StayM M J) (hN : ∀ k, N k → M k) : StayM N J := fun s X Y row hs hg hr => h s X Y row hs hg (fun r e => hN r (hr r e))
theorem StayM.and {β : Type} {M : Nat → Prop} {J K : β → World → Prop} (h : StayM M J) (k : StayM M K) : StayM M (fun s X => J s X ∧ K s X) := fun s X Y row hs hg hr => ⟨h s X Y row hs.1 hg hr, k s X Y row hs.2 hg hr⟩
theorem StayM.pure {β : Type} (M : Nat → Prop) (p : β → Prop) : StayM M (fun s (_ : World) => p s) := fun _ _ _ _ hs _ _ => hs
theorem StayM.blk {β : Type} {M : Nat → Prop} {g : Nat} (hg : ¬ M g) (t : TypeId) (f : β → Array Value) : StayM M (fun s X => Blk X g t (f s)) := fun _ _ _ _ hs hw hr => hs.kept hw (fun e => hg (hr g e.symm))
theorem StayM.heap {β : Type} {M : Nat → Prop} {g : Nat} (hg : ¬ M g) (o : β → Obj) : StayM M (fun s X => X.heap[g]? = some (o s)) := fun _ _ _ _ hs hw hr => (hw.block g (Array.getElem?_eq_some_iff.1 hs).1 (fun e => hg (hr g e.symm))).trans hs
theorem StayM.ex {β γ : Type} {M : Nat → Prop} {J : γ → β → World → Prop} (h : ∀ c, StayM M (J c)) : StayM M (fun s X => ∃ c, J c s X) := fun s X Y row ⟨c, hs⟩ hg hr => ⟨c, h c s X Y row hs hg hr⟩
theorem StayM.below {β : Type} {M : Nat → Prop} {n₀ : Nat} {w : World} (hn : n₀ ≤ w.heap.size) (hM : ∀ k, M k → n₀ ≤ k) : StayM M (fun (_ : β) X => Below n₀ w X) := fun _ _ _ _ hs hw hr => hs.grown hw (Nat.le_trans hn hs.size) (fun k e => hM k (hr k e))
theorem StayM.size {β : Type} {M : Nat → Prop} (n : Nat) : StayM M (fun (_ : β) X => n ≤ X.heap.size) := fun _ _ _ _ hs hw _ => Nat.le_trans hs hw.size

/-- What an iterator owes that writes blocks in M and new ones alone; Gd: what the caller is told of what comes next. -/
def SeqM {α : Type} (n : Nat) (P : Program) (g : Nat) (lb : Array Value) (encs : α → Array Value) (n₀ : Nat) (M : Nat → Prop) (Gd : List α → α → Prop) (S Sp : List α → Prop) (w : World) : Prop :=
  ∀ (l : Nat) (J Jx : List α → World → Prop) (W : World), Below w.heap.size w W → StayM M J → StayM M Jx →
    (∀ pre x X, Gd pre x → J pre X → YieldAt Fence.wide 0 P l (encs x) X fun e Y => (e = .returned (.bool true) ∧ J (pre ++ [x]) Y ∧ KeptM M X Y ∧ Below n₀ X Y) ∨ (e = .returned (.bool false) ∧ Jx (pre ++ [x]) Y ∧ KeptM M X Y)) →
    J [] W →
    CallsIn Fence.wide n P g (#[.func (.yield l) #[] #[]] ++ lb) W fun e Y => (∃ v, e = .returned v) ∧ ((∃ xs, S xs ∧ J xs Y) ∨ (∃ pre, Sp pre ∧ Jx pre Y))

/-- How a round's body may end. -/
def postM {α : Type} (M : Nat → Prop) (n₀ : Nat) (I : List α → World → Prop) (Ix : Code → List α → World → Prop) (xs : List α) (X : World) : Exit → Act → World → Prop
  | .normal, _, Y => KeptM M X Y ∧ Below n₀ X Y ∧ I xs Y
  | .ret, _, Y => KeptM M X Y ∧ Ix .ret xs Y
  | .exit id, _, Y => KeptM M X Y ∧ Ix (.exit id) xs Y
  | .goto t, _, Y => KeptM M X Y ∧ Ix (.goto t) xs Y
  | .panic _, _, _ => False
  | .outgrown, _, _ => False

theorem wpIn_rangeM {P : Program} {α : Type} {n : Nat} {g : Operand} {ps : Array Tmp} {assign body : Code} {Q : Exit → Act → World → Prop} {a : Act} {w : World}
    (h1 : 1 ≤ n) {gf : Nat} {lb : Array Value} (hg : a.eval g = .func (.func gf) #[] lb) (eg : ∀ args w, (callFunc gf args).run P w = .ok (.enter gf args) w)
    {encs : α → Array Value} {n₀ : Nat} {M : Nat → Prop} {Gd : List α → α → Prop} {S Sp : List α → Prop} {w0 : World} (hseq : SeqM (n - 1) P gf lb encs n₀ M Gd S Sp w0) (hb0 : Below w0.heap.size w0 w) (hn₀ : n₀ ≤ w.heap.size) (hM : ∀ k, M k → k < w.heap.size) (hps : ∀ x, (encs x).size = ps.size)
    (I : List α → World → Prop) (Ix : Code → List α → World → Prop) (hI : StayM (fun k => M k ∨ k = w.heap.size ∨ k = w.heap.size + 1) I) (hIx : ∀ c, StayM (fun k => M k ∨ k = w.heap.size ∨ k = w.heap.size + 1) (Ix c)) (h0 : I [] w)
    (Ax : α → Act → World → Prop) (hAx : ∀ x a', StayM (fun k => k = w.heap.size + 1) (fun (_ : Unit) X => Ax x a' X))
    (hassign : ∀ (l : Nat) (pre : List α) (x : α) (X : World) (K : Act → World → Prop), Gd pre x → w.heap.size + 1 < X.heap.size → I pre X → (∀ a' Y, KeptM (fun k => M k ∨ k = w.heap.size ∨ k = w.heap.size + 1) X Y → Below n₀ X Y → I pre Y → Ax x a' Y → K a' Y) →
      assign.wpIn (Fence.wide.inRound l) (n - 1 - 1) P (Exit.then K (fun _ _ _ => False)) { tmps := (ps.zip (encs x)).foldl (fun t (p, v) => t.setIfInBounds p v) a.tmps, defers := [] } X)
    (hbody : ∀ (l : Nat) (pre : List α) (x : α) (a' : Act) (X : World), l = w.heap.size + 1 → Gd pre x → (∃ r, X.heap[l]? = some (.loop r)) → I pre X → Ax x a' X → body.wpIn (Fence.wide.inRound l) (n - 1 - 1) P (postM (fun k => M k ∨ k = w.heap.size ∨ k = w.heap.size + 1) n₀ I Ix (pre ++ [x]) X) a' X)
    (hdone : ∀ (D : Nat) (xs : List α) (X : World), D = w.heap.size → S xs → I xs X → X.heap[D]? = some (.deferred (some [])) → Q .normal { a with defers := { target := .collected D, args := #[] } :: a.defers } X)
    (hstop : ∀ (D : Nat) (c : Code) (pre : List α) (X : World), D = w.heap.size → Sp pre → Ix c pre X → X.heap[D]? = some (.deferred (some [])) → c.wpIn Fence.wide n P Q { a with defers := { target := .collected D, args := #[] } :: a.defers } X) :
    (Code.rangeFunc g ps assign body).wpIn Fence.wide n P Q a w := by
  refine wpIn_rangeFunc (fun fn hfn => ?_)
  have hro : Fence.wide.round = none := rfl
  rw [hro]
  let R : LoopState → Option Code → Loop := fun st pe => { state := st, pending := pe, fn, tmps := a.tmps, params := ps, assign, body, defers := w.heap.size }
  obtain ⟨V, hV⟩ : ∃ V, (w.alloc (.deferred (some []))).alloc (.loop (R .ready none)) = V := ⟨_, rfl⟩
  have hVs : V.heap.size = w.heap.size + 2 := by rw [← hV]; simp
  have hwV : Below w.heap.size w V := by rw [← hV]; exact ((Below.refl _ w).alloc (Nat.le_refl _) _).alloc (by simp) _
  have hVl : V.heap[w.heap.size + 1]? = some (.loop (R .ready none)) := by
    rw [← hV]; have := World.alloc_heap_new (w.alloc (.deferred (some []))) (.loop (R .ready none)); rwa [World.size_alloc] at this
  have hVd : V.heap[w.heap.size]? = some (.deferred (some [])) := by
    rw [← hV]; exact (Below.heap_alloc _ _ _ (by simp)).trans (World.alloc_heap_new w _)
  have hVI : I [] V := hI.new h0 hwV
  refine ⟨w.heap.size + 1, [{ target := .collected w.heap.size, args := #[] }], V, { target := .fn (.func gf) lb, args := #[.func (.yield (w.heap.size + 1)) #[] #[]] }, V, gf, #[.func (.yield (w.heap.size + 1)) #[] #[]] ++ lb, V, ?_, ?_, fun _ _ => trivial, ?_, fun _ => h1, ?_⟩
  · rw [← hV]; exact run_enterLoop_outer _ _ _ _ _
  · simp only [resolve, hg]; simp [go_sem]
  · simp [invoke, go_sem, eg]
  refine (hseq (w.heap.size + 1)
    (fun pre X => (I pre X ∧ X.heap[w.heap.size + 1]? = some (.loop (R .ready none))) ∧ X.heap[w.heap.size]? = some (.deferred (some [])))
    (fun pre X => ∃ c, (Ix c pre X ∧ X.heap[w.heap.size + 1]? = some (.loop (R .done (some c)))) ∧ X.heap[w.heap.size]? = some (.deferred (some [])))
    V (hb0.trans (hwV.mono hb0.size))
    (((hI.mono (fun k h => .inl h)).and (StayM.heap (fun h => by have := hM _ h; omega) (fun _ => _))).and (StayM.heap (fun h => by have := hM _ h; omega) (fun _ => _)))
    (StayM.ex fun c => (((hIx c).mono (fun k h => .inl h)).and (StayM.heap (fun h => by have := hM _ h; omega) (fun _ => _))).and (StayM.heap (fun h => by have := hM _ h; omega) (fun _ => _)))
    ?_ ⟨⟨hVI, hVl⟩, hVd⟩).mono ?_
  · rintro pre x X hgd ⟨⟨hi, hl⟩, hk⟩
    have hll : w.heap.size + 1 < X.heap.size := (Array.getElem?_eq_some_iff.1 hl).1
    refine ⟨fn, _, assign, body, run_yield hl (hps x), ?_⟩
    refine RoundIn.mono (R := _) ?_ (fun _ _ h => h)
    suffices h : RoundIn Fence.wide (n - 1 - 1) P (w.heap.size + 1) fn ((ps.zip (encs x)).foldl (fun t (p, v) => t.setIfInBounds p v) a.tmps) assign body X _ from ⟨h.1, fun c cs _ => h.2 c cs (room_of_none rfl _)⟩
    refine roundIn_of_wpIn hfn (hassign _ pre x X _ hgd hll hi (fun a' Y hkY hbY hiY hax => ?_))
    have hlY : Y.heap[w.heap.size + 1]? = some (.loop (R .ready none)) := (hkY.2 _ (.inr (.inr rfl)) hll).trans hl
    have hkY2 : Y.heap[w.heap.size]? = some (.deferred (some [])) := (hkY.2 _ (.inr (.inl rfl)) (by omega)).trans hk
    refine ⟨_, run_beginRound hlY rfl, ?_⟩
    have hYl : w.heap.size + 1 < Y.heap.size := Nat.lt_of_lt_of_le hll hkY.1
    obtain ⟨Z, hZ⟩ : ∃ Z, Y.putObj (w.heap.size + 1) (.loop (R .busy none)) = Z := ⟨_, rfl⟩
    have hZ' : Y.putObj (w.heap.size + 1) (.loop { R .ready none with state := .busy }) = Z := hZ
    rw [hZ']
    have hZl : Z.heap[w.heap.size + 1]? = some (.loop (R .busy none)) := by rw [← hZ]; exact World.putObj_heap_same hYl
    have hZd : Z.heap[w.heap.size]? = some (.deferred (some [])) := by rw [← hZ]; exact (World.putObj_heap_other (by omega)).trans hkY2
    have hZI : I pre Z := by rw [← hZ]; exact hI.put _ hiY (.inr (.inr rfl))
    have hZA : Ax x a' Z := by rw [← hZ]; exact (hAx x a').put (s := ()) _ hax rfl
    have hZb : Below n₀ Y Z := by rw [← hZ]; exact below_put Y _ (by omega)
    have hZk : KeptM M Y Z := by rw [← hZ]; exact KeptM.put Y _ (fun h => by have := hM _ h; omega)
    have hZs : Z.heap.size = Y.heap.size := by rw [← hZ]; simp
    have fin : ∀ (jump : Option Code) (T : World), KeptM (fun k => M k ∨ k = w.heap.size ∨ k = w.heap.size + 1) Z T → ∃ U, (Instr.endRound (w.heap.size + 1) jump).run P T = .ok (.bool jump.isNone) U ∧ U = T.putObj (w.heap.size + 1) (.loop (R (if jump.isNone then .ready else .done) jump)) ∧
        U.heap[w.heap.size + 1]? = some (.loop (R (if jump.isNone then .ready else .done) jump)) ∧ U.heap[w.heap.size]? = some (.deferred (some [])) := fun jump T hT => by
      have hTl : T.heap[w.heap.size + 1]? = some (.loop (R .busy none)) := (hT.2 _ (.inr (.inr rfl)) (by omega)).trans hZl
      have hTd : T.heap[w.heap.size]? = some (.deferred (some [])) := (hT.2 _ (.inr (.inl rfl)) (by omega)).trans hZd
      refine ⟨_, run_endRound jump hTl, rfl, World.putObj_heap_same (Array.getElem?_eq_some_iff.1 hTl).1, (World.putObj_heap_other (by omega)).trans hTd⟩
    refine wpIn_mono (hbody _ pre x a' Z rfl hgd ⟨_, hZl⟩ hZI hZA) ?_
    rintro e a3 T hp
    cases e with
    | normal =>
      obtain ⟨hkT, hbT, hiT⟩ := hp
      obtain ⟨U, hr, hU, hUl, hUd⟩ := fin none T hkT
      refine ⟨_, _, hr, .inl ⟨rfl, ⟨⟨by rw [hU]; exact hI.put _ hiT (.inr (.inr rfl)), hUl⟩, hUd⟩, ?_, ?_⟩⟩
      · exact (hkY.mono (fun k h => .inl h)).trans (hZk.trans ((hkT.mono (fun k h => .inl h)).trans (by rw [hU]; exact KeptM.put T _ (fun h => by have := hM _ h; omega))))
      · exact hbY.trans (hZb.trans (hbT.trans (by rw [hU]; exact below_put T _ (by omega))))
    | ret =>
      obtain ⟨U, hr, hU, hUl, hUd⟩ := fin (some .ret) T hp.1
      exact ⟨_, _, hr, .inr ⟨rfl, ⟨.ret, ⟨by rw [hU]; exact (hIx _).put _ hp.2 (.inr (.inr rfl)), hUl⟩, hUd⟩, (hkY.mono (fun k h => .inl h)).trans (hZk.trans ((hp.1.mono (fun k h => .inl h)).trans (by rw [hU]; exact KeptM.put T _ (fun h => by have := hM _ h; omega))))⟩⟩
    | exit id =>
      obtain ⟨U, hr, hU, hUl, hUd⟩ := fin (some (.exit id)) T hp.1
      exact ⟨_, _, hr, .inr ⟨rfl, ⟨.exit id, ⟨by rw [hU]; exact (hIx _).put _ hp.2 (.inr (.inr rfl)), hUl⟩, hUd⟩, (hkY.mono (fun k h => .inl h)).trans (hZk.trans ((hp.1.mono (fun k h => .inl h)).trans (by rw [hU]; exact KeptM.put T _ (fun h => by have := hM _ h; omega))))⟩⟩
    | goto t =>
      obtain ⟨U, hr, hU, hUl, hUd⟩ := fin (some (.goto t)) T hp.1
      exact ⟨_, _, hr, .inr ⟨rfl, ⟨.goto t, ⟨by rw [hU]; exact (hIx _).put _ hp.2 (.inr (.inr rfl)), hUl⟩, hUd⟩, (hkY.mono (fun k h => .inl h)).trans (hZk.trans ((hp.1.mono (fun k h => .inl h)).trans (by rw [hU]; exact KeptM.put T _ (fun h => by have := hM _ h; omega))))⟩⟩
    | panic ch => exact hp.elim
    | outgrown => exact hp.elim
  · rintro e X ⟨⟨v, rfl⟩, (⟨xs, hS, ⟨hi, hl⟩, hk⟩ | ⟨pre, hSp, c, ⟨hi, hl⟩, hk⟩)⟩
    · exact ⟨none, _, run_endLoop hl (by simp [R]), hdone _ xs _ rfl hS (hI.put _ hi (.inr (.inr rfl))) ((World.putObj_heap_other (by omega)).trans hk)⟩
    · exact ⟨some c, _, run_endLoop hl (by simp [R]), hstop _ c pre _ rfl hSp ((hIx c).put _ hi (.inr (.inr rfl))) ((World.putObj_heap_other (by omega)).trans hk)⟩
end Go.Proofs.Ytcplhalgjjhmdaa
