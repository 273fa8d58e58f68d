/- A range over an iterator with cells of its own: the law of Tg where a round may write what was made for it. -/
import Derived.Test.YtcplhalgjjhmdaaTg
import Derived.Stop.RegionWithIn
import Derived.Sort.LoopGhostIn
namespace Go.Proofs.Ytcplhalgjjhmdaa
open Go.RowKit Go.Shelf

/-- The blocks from B on that were there at N blocks are as they were. -/
def KeptN (B N : Nat) (X Y : World) : Prop := X.heap.size ≤ Y.heap.size ∧ ∀ k, B ≤ k → k < N → Y.heap[k]? = X.heap[k]?
theorem KeptN.of {B N : Nat} {X Y : World} (hN : N ≤ X.heap.size) (h : Kept B X Y) : KeptN B N X Y := ⟨h.1, fun k hB hk => h.2 k hB (by omega)⟩
theorem KeptN.refl (B N : Nat) (X : World) : KeptN B N X X := ⟨Nat.le_refl _, fun _ _ _ => rfl⟩
theorem KeptN.trans {B N : Nat} {X Y Z : World} (h : KeptN B N X Y) (k : KeptN B N Y Z) : KeptN B N X Z := ⟨Nat.le_trans h.1 k.1, fun i hB hi => (k.2 i hB hi).trans (h.2 i hB hi)⟩
theorem KeptN.grown {B N : Nat} {X Y : World} {row : Option Nat} (hN : N ≤ X.heap.size) (h : X.grownBy Y row) (hr : ∀ r, row = some r → r < B ∨ N ≤ r) : KeptN B N X Y :=
  ⟨h.size, fun i hB hi => h.block i (by omega) (fun e => by have := hr i e.symm; omega)⟩
/-- How a round's body may end. -/
def postN {α : Type} (B N n₀ : Nat) (I : List α → World → Prop) (Ix : Code → List α → World → Prop) (xs : List α) (X : World) : Exit → Act → World → Prop
  | .normal, _, Y => KeptN B N X Y ∧ Below n₀ X Y ∧ I xs Y
  | .ret, _, Y => KeptN B N X Y ∧ Ix .ret xs Y
  | .exit id, _, Y => KeptN B N X Y ∧ Ix (.exit id) xs Y
  | .goto t, _, Y => KeptN B N X Y ∧ Ix (.goto t) xs Y
  | .panic _, _, _ => False
  | .outgrown, _, _ => False

theorem wpIn_rangeN {P : Program} {α : Type} {n : Nat} {g : Operand} {ps : Array Tmp} {assign body : Code} {Q : Exit → Act → World → Prop} {a : Act} {w : World}
    (h1 : 1 ≤ n) {gf : Nat} {lb : Array Value} (hg : a.eval g = .func (.func gf) #[] lb) (eg : ∀ args w, (callFunc gf args).run P w = .ok (.enter gf args) w)
    {encs : α → Array Value} {n₀ : Nat} {Bd : List α → Prop} {Gd : List α → α → Prop} {S Sp : List α → Prop} {w0 : World} (hseq : SeqB (n - 1) P gf lb encs n₀ Bd Gd S Sp w0) (hb0 : Below w0.heap.size w0 w) (hn₀ : n₀ ≤ w.heap.size) (hps : ∀ x, (encs x).size = ps.size)
    (I : List α → World → Prop) (Ix : Code → List α → World → Prop) (hI : Abide w.heap.size I) (hIx : ∀ c, Abide w.heap.size (Ix c)) (hBd : ∀ pre X, I pre X → Bd pre) (h0 : I [] w)
    (Ax : Nat → α → Act → World → Prop) (hAx : ∀ N x a', OwnFrom w.heap.size (fun (_ : Unit) X => Ax N x a' X))
    (hassign : ∀ (l : Nat) (pre : List α) (x : α) (X : World) (K : Act → World → Prop), Gd pre x → I pre X → (∀ a' Y, Kept w.heap.size X Y → Below n₀ X Y → I pre Y → Ax X.heap.size x a' Y → K a' Y) →
      assign.wpIn (Fence.wide.inRound l) (n - 1 - 1) P (Exit.then K (fun _ _ _ => False)) { tmps := (ps.zip (encs x)).foldl (fun t (p, v) => t.setIfInBounds p v) a.tmps, defers := [] } X)
    (hbody : ∀ (l N : Nat) (pre : List α) (x : α) (a' : Act) (X : World), w.heap.size ≤ l → Gd pre x → (∃ r, X.heap[l]? = some (.loop r)) → w.heap.size ≤ N → N ≤ X.heap.size → I pre X → Ax N x a' X → body.wpIn (Fence.wide.inRound l) (n - 1 - 1) P (postN w.heap.size N n₀ I Ix (pre ++ [x]) X) a' X)
    (hdone : ∀ (D : Nat) (xs : List α) (X : World), w.heap.size ≤ D → S xs → I xs X → X.heap[D]? = some (.deferred (some [])) → Q .normal { a with defers := { target := .collected D, args := #[] } :: a.defers } X)
    (hstop : ∀ (D : Nat) (c : Code) (pre : List α) (X : World), w.heap.size ≤ D → Sp pre → Ix c pre X → X.heap[D]? = some (.deferred (some [])) → c.wpIn Fence.wide n P Q { a with defers := { target := .collected D, args := #[] } :: a.defers } X) :
    (Code.rangeFunc g ps assign body).wpIn Fence.wide n P Q a w := by
  refine wpIn_rangeFunc (fun fn hfn => ?_)
  have hro : Fence.wide.round = none := rfl
  rw [hro]
  let R : LoopState → Option Code → Loop := fun st pe => { state := st, pending := pe, fn, tmps := a.tmps, params := ps, assign, body, defers := w.heap.size }
  obtain ⟨V, hV⟩ : ∃ V, (w.alloc (.deferred (some []))).alloc (.loop (R .ready none)) = V := ⟨_, rfl⟩
  have hVs : V.heap.size = w.heap.size + 2 := by rw [← hV]; simp
  have hwV : Below w.heap.size w V := by rw [← hV]; exact ((Below.refl _ w).alloc (Nat.le_refl _) _).alloc (by simp) _
  have hVl : V.heap[w.heap.size + 1]? = some (.loop (R .ready none)) := by
    rw [← hV]; have := World.alloc_heap_new (w.alloc (.deferred (some []))) (.loop (R .ready none)); rwa [World.size_alloc] at this
  have hVd : V.heap[w.heap.size]? = some (.deferred (some [])) := by
    rw [← hV]; exact (Below.heap_alloc _ _ _ (by simp)).trans (World.alloc_heap_new w _)
  have hVI : I [] V := hI.new h0 hwV
  refine ⟨w.heap.size + 1, [{ target := .collected w.heap.size, args := #[] }], V, { target := .fn (.func gf) lb, args := #[.func (.yield (w.heap.size + 1)) #[] #[]] }, V, gf, #[.func (.yield (w.heap.size + 1)) #[] #[]] ++ lb, V, ?_, ?_, fun _ _ => trivial, ?_, fun _ => h1, ?_⟩
  · rw [← hV]; exact run_enterLoop_outer _ _ _ _ _
  · simp only [resolve, hg]; simp [go_sem]
  · simp [invoke, go_sem, eg]
  refine (hseq (w.heap.size + 1)
    (fun pre X => (I pre X ∧ X.heap[w.heap.size + 1]? = some (.loop (R .ready none))) ∧ X.heap[w.heap.size]? = some (.deferred (some [])))
    (fun pre X => ∃ c, (Ix c pre X ∧ X.heap[w.heap.size + 1]? = some (.loop (R .done (some c)))) ∧ X.heap[w.heap.size]? = some (.deferred (some [])))
    V (hb0.trans (hwV.mono hb0.size))
    (((hI.mono (by omega)).and (Abide.heap (by omega) (fun _ => _))).and (Abide.heap (by omega) (fun _ => _)))
    (Abide.ex fun c => (((hIx c).mono (by omega)).and (Abide.heap (by omega) (fun _ => _))).and (Abide.heap (by omega) (fun _ => _)))
    (fun pre X h => hBd pre X h.1.1) ?_ ⟨⟨hVI, hVl⟩, hVd⟩).mono ?_
  · rintro pre x X hgd ⟨⟨hi, hl⟩, hk⟩
    have hll : w.heap.size + 1 < X.heap.size := (Array.getElem?_eq_some_iff.1 hl).1
    refine ⟨fn, _, assign, body, run_yield hl (hps x), ?_⟩
    refine RoundIn.mono (R := _) ?_ (fun _ _ h => h)
    suffices h : RoundIn Fence.wide (n - 1 - 1) P (w.heap.size + 1) fn ((ps.zip (encs x)).foldl (fun t (p, v) => t.setIfInBounds p v) a.tmps) assign body X _ from ⟨h.1, fun c cs _ => h.2 c cs (room_of_none rfl _)⟩
    refine roundIn_of_wpIn hfn (hassign _ pre x X _ hgd hi (fun a' Y hkY hbY hiY hax => ?_))
    have hlY : Y.heap[w.heap.size + 1]? = some (.loop (R .ready none)) := (hkY.2 _ (by omega) hll).trans hl
    have hkY2 : Y.heap[w.heap.size]? = some (.deferred (some [])) := (hkY.2 _ (Nat.le_refl _) (by omega)).trans hk
    refine ⟨_, run_beginRound hlY rfl, ?_⟩
    have hYl : w.heap.size + 1 < Y.heap.size := Nat.lt_of_lt_of_le hll hkY.1
    obtain ⟨Z, hZ⟩ : ∃ Z, Y.putObj (w.heap.size + 1) (.loop (R .busy none)) = Z := ⟨_, rfl⟩
    have hZ' : Y.putObj (w.heap.size + 1) (.loop { R .ready none with state := .busy }) = Z := hZ
    rw [hZ']
    have hZl : Z.heap[w.heap.size + 1]? = some (.loop (R .busy none)) := by rw [← hZ]; exact World.putObj_heap_same hYl
    have hZd : Z.heap[w.heap.size]? = some (.deferred (some [])) := by rw [← hZ]; exact (World.putObj_heap_other (by omega)).trans hkY2
    have hZI : I pre Z := by rw [← hZ]; exact hI.put _ hiY (by omega)
    have hZA : Ax X.heap.size x a' Z := by rw [← hZ]; exact (hAx _ x a').putObj (s := ()) _ hax (by omega) hlY rfl
    have hZb : Below n₀ Y Z := by rw [← hZ]; exact below_put Y _ (by omega)
    have hZk : Kept V.heap.size Y Z := by rw [← hZ]; exact Kept.put Y _ (by omega)
    have hZs : Z.heap.size = Y.heap.size := by rw [← hZ]; simp
    have fin : ∀ (jump : Option Code) (T : World), KeptN w.heap.size X.heap.size Z T → ∃ U, (Instr.endRound (w.heap.size + 1) jump).run P T = .ok (.bool jump.isNone) U ∧ U = T.putObj (w.heap.size + 1) (.loop (R (if jump.isNone then .ready else .done) jump)) ∧
        U.heap[w.heap.size + 1]? = some (.loop (R (if jump.isNone then .ready else .done) jump)) ∧ U.heap[w.heap.size]? = some (.deferred (some [])) := fun jump T hT => by
      have hTl : T.heap[w.heap.size + 1]? = some (.loop (R .busy none)) := (hT.2 _ (by omega) (by omega)).trans hZl
      have hTd : T.heap[w.heap.size]? = some (.deferred (some [])) := (hT.2 _ (Nat.le_refl _) (by omega)).trans hZd
      refine ⟨_, run_endRound jump hTl, rfl, World.putObj_heap_same (Array.getElem?_eq_some_iff.1 hTl).1, (World.putObj_heap_other (by omega)).trans hTd⟩
    have hXT : ∀ T, KeptN w.heap.size X.heap.size Z T → Kept V.heap.size X T := fun T hT => ⟨by have := hT.1; have := hkY.1; omega, fun k hk1 hk2 => (hT.2 k (by omega) hk2).trans ((hZk.2 k hk1 (by have := hkY.1; omega)).trans (hkY.2 k (by omega) hk2))⟩
    refine wpIn_mono (hbody _ X.heap.size pre x a' Z (by omega) hgd ⟨_, hZl⟩ (by omega) (by have := hkY.1; omega) hZI hZA) ?_
    rintro e a3 T hp
    cases e with
    | normal =>
      obtain ⟨hkT, hbT, hiT⟩ := hp
      obtain ⟨U, hr, hU, hUl, hUd⟩ := fin none T hkT
      refine ⟨_, _, hr, .inl ⟨rfl, ⟨⟨by rw [hU]; exact hI.put _ hiT (by omega), hUl⟩, hUd⟩, ?_, ?_⟩⟩
      · exact (hXT T hkT).trans (by rw [hU]; exact Kept.put T _ (by omega))
      · exact hbY.trans (hZb.trans (hbT.trans (by rw [hU]; exact below_put T _ (by omega))))
    | ret =>
      obtain ⟨U, hr, hU, hUl, hUd⟩ := fin (some .ret) T hp.1
      exact ⟨_, _, hr, .inr ⟨rfl, ⟨.ret, ⟨by rw [hU]; exact (hIx _).put _ hp.2 (by omega), hUl⟩, hUd⟩, (hXT T hp.1).trans (by rw [hU]; exact Kept.put T _ (by omega))⟩⟩
    | exit id =>
      obtain ⟨U, hr, hU, hUl, hUd⟩ := fin (some (.exit id)) T hp.1
      exact ⟨_, _, hr, .inr ⟨rfl, ⟨.exit id, ⟨by rw [hU]; exact (hIx _).put _ hp.2 (by omega), hUl⟩, hUd⟩, (hXT T hp.1).trans (by rw [hU]; exact Kept.put T _ (by omega))⟩⟩
    | goto t =>
      obtain ⟨U, hr, hU, hUl, hUd⟩ := fin (some (.goto t)) T hp.1
      exact ⟨_, _, hr, .inr ⟨rfl, ⟨.goto t, ⟨by rw [hU]; exact (hIx _).put _ hp.2 (by omega), hUl⟩, hUd⟩, (hXT T hp.1).trans (by rw [hU]; exact Kept.put T _ (by omega))⟩⟩
    | panic ch => exact hp.elim
    | outgrown => exact hp.elim
  · rintro e X ⟨⟨v, rfl⟩, (⟨xs, hS, ⟨hi, hl⟩, hk⟩ | ⟨pre, hSp, c, ⟨hi, hl⟩, hk⟩)⟩
    · exact ⟨none, _, run_endLoop hl (by simp [R]), hdone _ xs _ (Nat.le_refl _) hS (hI.put _ hi (by omega)) ((World.putObj_heap_other (by omega)).trans hk)⟩
    · exact ⟨some c, _, run_endLoop hl (by simp [R]), hstop _ c pre _ (Nat.le_refl _) hSp ((hIx c).put _ hi (by omega)) ((World.putObj_heap_other (by omega)).trans hk)⟩
/-- What is walked at a fence is walked in a round of it, where nothing is deferred. -/
theorem wpAnyIn_round {F : Fence} {n : Nat} {P : Program} {md : Region.Mode} {ops : Array Oper} {Q : Exit → Act → World → Prop} (l : Nat) (hnd : ∀ (j : Nat) (o : Oper), ops[j]? = some o → ∀ c, o.op ≠ .defer c) :
    ∀ (fuel : Nat) (listed : Array Bool) (a : Act) (w : World), wpAnyIn F n P md ops Q fuel listed a w → wpAnyIn (F.inRound l) n P md ops Q fuel listed a w := by
  intro fuel
  induction fuel with
  | zero => intro listed a w h; exact h
  | succ fuel ih =>
    intro listed a w h
    refine ⟨h.1, fun i hi => wpOpIn_mono (ih _) ?_⟩
    have h2 := h.2 i hi
    unfold wpOpIn at h2 ⊢
    cases ho : ops[i]? with
    | none => rw [ho] at h2; exact h2
    | some o =>
      rw [ho] at h2
      dsimp only at h2 ⊢
      split
      · rename_i hw
        rw [if_pos hw] at h2
        unfold Oper.wpIn at h2 ⊢
        rw [Oper.semAt_plain _ _ _ (hnd i o ho)] at h2 ⊢
        refine ⟨h2.1, ?_⟩
        have h3 := h2.2
        generalize (execOp a.eval o).run P w = r at *
        cases r with
        | ok x w' => cases x <;> exact h3
        | halt x w' => cases x <;> exact h3
      · rename_i hw
        rw [if_neg hw] at h2
        exact h2
/-- A drawn region in a round, walked at the fence. -/
theorem wpIn_region_round {F : Fence} {n : Nat} {P : Program} {ops : Array Oper} {Q : Exit → Act → World → Prop} {id : Nat} {a : Act} {w : World} (l : Nat) (hm : P.follows .mixedOrders = true) (hnd : (ops.all fun o => match o.op with | .defer _ => false | _ => true) = true)
    (h : wpAnyIn F n P .any ops Q ops.size (Array.replicate ops.size false) a w.drew) : (Code.region id ops true).wpIn (F.inRound l) n P Q a w :=
  wpIn_region_any hm (wpAnyIn_round l (fun j o ho c hc => by
    have h1 := Array.all_eq_true.1 hnd j (Array.getElem?_eq_some_iff.1 ho).1
    have h2 : ops[j]'(Array.getElem?_eq_some_iff.1 ho).1 = o := (Array.getElem?_eq_some_iff.1 ho).2
    rw [h2, hc] at h1
    cases h1) _ _ _ _ h)
/-- Behind a word, so that nothing takes it unasked. -/
structure Kept1 (T : Prop) : Prop where
  out : T
theorem join_all {T R : Prop} (f : Kept1 T → R) (t : T) : R := f ⟨t⟩

end Go.Proofs.Ytcplhalgjjhmdaa
