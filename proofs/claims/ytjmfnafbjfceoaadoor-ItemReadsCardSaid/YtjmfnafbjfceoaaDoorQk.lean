/- Texts laid into one: Qk. -/
import Derived.Test.YtjmfnafbjfceoaaDoorQb
import Derived.RangeFuncLeaves
import Derived.Test.YtjmfnafbjfceoaaDoorYi
/- A range over a function whose iterator, or whose body, gives up: laws for one function's frames. -/
namespace Go.Proofs.YtjmfnafbjfceoaaDoor
open Go.RowKit Go.Shelf

/-- How code is left, walked in frames of one function alone. -/
def WpF (f : FuncId) (P : Program) (c : Code) (Q : Exit → Act → World → Prop) (a : Act) (w : World) : Prop :=
  ∀ (b : Frame) (k : List Item) (cs : List Frame), b.roundOf = none → b.fn = f →
    ∃ e a' w', Q e a' w' ∧ ArrivesIn (Machine.fenced P Fence.wide) P (lone (b.atR a (.code c :: k)) cs w) b k cs e a' w'
section
variable {f : FuncId} {P : Program} {Q : Exit → Act → World → Prop} {a : Act} {w : World}
theorem calmW {fr : Frame} {cs : List Frame} {w : World} (ha : fr.about P w = none) : (lone fr cs w).fenced P Fence.wide := fenced_calm (n := 0) trivial (room_wide _) ha
theorem WpF.of {n : Nat} {c : Code} (h : c.wpIn Fence.wide n P Q a w) : WpF f P c Q a w := fun b k cs hro _ => h b k cs hro trivial (room_wide _)
theorem WpF.seq {x y : Code} (h : WpF f P x (Exit.then (WpF f P y Q) Q) a w) : WpF f P (Code.seq x y) Q a w := fun b k cs hro hb => by
  have s0 : StepsIn (Machine.fenced P Fence.wide) P (lone (b.atR a (.code (.seq x y) :: k)) cs w) (lone (b.atR a (.code x :: .code y :: k)) cs w) := .one (calmW rfl) stepR_seq
  obtain ⟨e, a₁, w₁, hq, harr⟩ := h b (.code y :: k) cs hro hb
  by_cases hn : e = .normal
  · subst hn
    obtain ⟨e₂, a₂, w₂, hq₂, harr₂⟩ := hq b k cs hro hb
    exact ⟨e₂, a₂, w₂, hq₂, .of_steps (StepsIn.trans s0 harr) harr₂⟩
  · refine ⟨e, a₁, w₁, by cases e <;> first | exact absurd rfl hn | exact hq, .of_steps s0 (.pass (x := .code y) rfl (fun _ _ => .inl hn) harr)⟩
theorem WpF.blockP {id : Nat} {c : Code} (h : WpF f P c (fun e a w => match e with | .panic ch => Q (.panic ch) a w | _ => False) a w) : WpF f P (Code.block id c) Q a w := fun b k cs hro hb => by
  have s0 : StepsIn (Machine.fenced P Fence.wide) P (lone (b.atR a (.code (.block id c) :: k)) cs w) (lone (b.atR a (.code c :: .inBlock id :: k)) cs w) := .one (calmW rfl) stepR_block
  obtain ⟨e, a₁, w₁, hq, harr⟩ := h b (.inBlock id :: k) cs hro hb
  cases e with
  | panic ch => exact ⟨_, a₁, w₁, hq, .of_steps s0 harr⟩
  | _ => exact hq.elim
/-- A function's contract out of the walk of its own frame. -/
theorem callsIn_of_wpF {fn : Func} {c : Code} {args : Array Value} {R : Ending → World → Prop} {n : Nat} (hf : P.funcs[f]? = some fn) (hc : fn.body = some c)
    (h : WpF f P c (fun e a w => match e with | .panic ch => LeavesInM Fence.wide n P fn a.tmps R a.defers (.panicking ch) w | _ => False) { tmps := args ++ Array.replicate (fn.ntmps - args.size) undef, defers := [] } w) : CallsIn Fence.wide n P f args w R := by
  refine ⟨trivial, fun cs hr => ?_⟩
  let b : Frame := { (default : Frame) with fn := f, kind := .normal, roundOf := none }
  have henter : Frame.enter P f args .normal = b.atR { tmps := args ++ Array.replicate (fn.ntmps - args.size) undef, defers := [] } [.code c] := by simp [Frame.enter, Frame.atR, hf, hc, b]
  obtain ⟨e, a', w', hq, harr⟩ := h b [] cs rfl rfl
  rw [← henter] at harr
  cases e with
  | panic chain =>
    obtain ⟨todo, hs₀⟩ := harr
    obtain ⟨e', w'', fr', hR, hs, hfn, hl⟩ := leaves_stepsInM a'.defers (.panicking chain) w' { b.atR a' todo with mode := .panicking chain } cs rfl rfl rfl hf rfl trivial (room_wide _) hq
    exact ⟨e', w'', fr', hR, ComesIn.of_steps hs₀ hs, hfn, hl⟩
  | _ => exact hq.elim
/-- A round out of its body's walk, where the body may give up. -/
theorem roundIn_panic {n l : Nat} {tmps : Array Value} {assign body : Code} {R : Ending → World → Prop} {fn : Func} (hf : P.funcs[f]? = some fn)
    (h : assign.wpIn (Fence.wide.inRound l) n P (Exit.then (fun a₁ w₁ => ∃ w₂, (Instr.beginRound l).run P w₁ = .ok () w₂ ∧ body.wpIn (Fence.wide.inRound l) n P
        (fun e a w => match e with
          | .normal => ∃ v w', (Instr.endRound l none).run P w = .ok v w' ∧ R (.returned v) w'
          | .panic ch => a.defers = [] ∧ R (.panicked ch) w
          | _ => False) a₁ w₂) (fun _ _ _ => False)) { tmps := tmps, defers := [] } w) :
    RoundIn Fence.wide n P l f tmps assign body w R := by
  refine ⟨trivial, fun c cs hr => ?_⟩
  let b : Frame := { (default : Frame) with fn := f, kind := .normal, roundOf := some l }
  have hb0 : Frame.round l f tmps assign body .normal = b.atR { tmps := tmps, defers := [] } [.code assign, .beginRound, .code body] := by simp [Frame.round, Frame.atR, b]
  have hr' : (Fence.wide.inRound l).room ((c :: cs).length + 1 + n) := hr
  obtain ⟨e, a₁, w₁, hq, harr⟩ := h b [.beginRound, .code body] (c :: cs) rfl trivial hr'
  rw [← hb0] at harr
  cases e with
  | normal =>
    obtain ⟨w₂, hbr, hbody⟩ := hq
    have s1 : StepsIn (Machine.fenced P (Fence.wide.inRound l)) P (lone (b.atR a₁ [.beginRound, .code body]) (c :: cs) w₁) (lone (b.atR a₁ [.code body]) (c :: cs) w₂) :=
      .one (fenced_calm (n := n) (fr := b.atR a₁ [.beginRound, .code body]) trivial hr' rfl) (stepR_beginRound rfl hbr)
    obtain ⟨e₂, a₂, w₃, hq₂, harr₂⟩ := hbody b [] (c :: cs) rfl trivial hr'
    cases e₂ with
    | normal =>
      obtain ⟨v, w₄, hend, hR⟩ := hq₂
      exact ⟨.returned v, w₄, hR, (StepsIn.trans harr s1).trans (StepsIn.trans harr₂ (.one (fenced_calm (n := n) (fr := b.atR a₂ []) trivial hr' rfl) (stepR_round_end rfl rfl hend)))⟩
    | panic chain =>
      obtain ⟨hd, hR⟩ := hq₂
      obtain ⟨todo, hs⟩ := harr₂
      have hlv : Frame.leaving P { b.atR a₂ todo with mode := .panicking chain } w₃ (.panicked chain) := ⟨rfl, hd, fn, hf⟩
      exact ⟨.panicked chain, w₃, hR, (StepsIn.trans harr s1).trans (StepsIn.trans hs (.one (fenced_leaving (n := n) trivial hr' hlv) (step_leave_panicked hlv)))⟩
    | _ => exact hq₂.elim
  | _ => exact hq.elim
/-- The statement, where what is ranged over ends by giving up. -/
theorem rangeFunc_panic {g : Operand} {ps : Array Tmp} {assign body : Code} {n : Nat} {ch : List PanicEntry}
    (h : ∃ (l : Nat) (mark : List Deferred) (w₁ : World) (d : Deferred) (w₁' : World) (f' : FuncId) (args : Array Value) (w₂ : World),
      (Instr.enterLoop f a.tmps ps assign body none).run P w = .ok (l, mark) w₁ ∧ (resolve a.eval (rangeCall g l) 0).run P w₁ = .ok d w₁' ∧ (invoke d.target d.args).run P w₁' = .ok (.enter f' args) w₂ ∧
      CallsIn Fence.wide n P f' args w₂ (fun e w₃ => e = .panicked ch ∧ Q (.panic ch) { a with defers := mark ++ a.defers } w₃)) :
    WpF f P (Code.rangeFunc g ps assign body) Q a w := fun b k cs hro hb => by
  obtain ⟨l, mark, w₁, d, w₁', f', args, w₂, he, hres, hinv, _, hcall⟩ := h
  subst hb
  rw [← hro] at he
  have h0 : (lone (b.atR a (.code (.rangeFunc g ps assign body) :: k)) cs w).fenced P Fence.wide := fenced_wide P _
  have henter := stepR_rangeFunc (P := P) (b := b) (a := a) (k := k) (cs := cs) (w := w) he hres hinv
  obtain ⟨e, w₃, fr, ⟨rfl, hR⟩, hsteps, _, hleave⟩ := hcall (b.atR { a with defers := mark ++ a.defers } (.inRangeFunc l :: k) :: cs) (room_wide _)
  have hl : (lone fr (b.atR { a with defers := mark ++ a.defers } (.inRangeFunc l :: k) :: cs) w₃).fenced P Fence.wide := fenced_wide P _
  refine ⟨.panic ch, _, w₃, hR, .inRangeFunc l :: k, .head h0 henter (StepsIn.trans hsteps (.one hl ?_))⟩
  rw [← Frame.raise_atR]; exact step_leave_panicked hleave
end
/-- What an iterator owes that gives up, by itself or where the body does. -/
def SeqF {α : Type} (n : Nat) (P : Program) (g : Nat) (lb : Array Value) (encs : α → Array Value) (n₀ : Nat) (M : Nat → Prop) (Gd : List α → α → Prop) (N : Nat) (ch : List PanicEntry) (w : World) : Prop :=
  ∀ (l : Nat) (J : List α → World → Prop) (Jp : World → Prop) (W : World), Below w.heap.size w W → StayM M J → (∀ pre X Y row, J pre X → X.grownBy Y row → (∀ r, row = some r → M r) → Jp Y) →
    (∀ pre x X, Gd pre x → J pre X → YieldAt Fence.wide 0 P l (encs x) X fun e Y => (e = .returned (.bool true) ∧ pre.length < N ∧ J (pre ++ [x]) Y ∧ KeptM M X Y ∧ Below n₀ X Y) ∨ (e = .panicked ch ∧ Jp Y)) →
    J [] W →
    CallsIn Fence.wide n P g (#[.func (.yield l) #[] #[]] ++ lb) W fun e Y => e = .panicked ch ∧ Jp Y

/-- How a round's body may end. -/
def postF {α : Type} (M : Nat → Prop) (n₀ N : Nat) (ch : List PanicEntry) (I : List α → World → Prop) (Ip : World → Prop) (pre : List α) (x : α) (X : World) : Exit → Act → World → Prop
  | .normal, _, Y => pre.length < N ∧ KeptM M X Y ∧ Below n₀ X Y ∧ I (pre ++ [x]) Y
  | .panic c, a, Y => c = ch ∧ a.defers = [] ∧ KeptM M X Y ∧ Ip Y
  | _, _, _ => False

theorem wpF_rangeF {f : FuncId} {fn0 : Func} {P : Program} (hf0 : P.funcs[f]? = some fn0) {α : Type} {n : Nat} {g : Operand} {ps : Array Tmp} {assign body : Code} {Q : Exit → Act → World → Prop} {a : Act} {w : World} {ch : List PanicEntry} {N : Nat}
    {nb : Nat} {gf : Nat} {lb : Array Value} (hg : a.eval g = .func (.func gf) #[] lb) (eg : ∀ args w, (callFunc gf args).run P w = .ok (.enter gf args) w)
    {encs : α → Array Value} {n₀ : Nat} {M : Nat → Prop} {Gd : List α → α → Prop} {w0 : World} (hseq : SeqF n P gf lb encs n₀ M Gd N ch w0) (hb0 : Below w0.heap.size w0 w) (hn₀ : n₀ ≤ w.heap.size) (hM : ∀ k, M k → k < w.heap.size) (hps : ∀ x, (encs x).size = ps.size)
    (I : List α → World → Prop) (Ip : World → Prop) (hI : StayM (fun k => M k ∨ k = w.heap.size ∨ k = w.heap.size + 1) I) (hIp : ∀ pre X Y row, I pre X → X.grownBy Y row → (∀ r, row = some r → M r ∨ r = w.heap.size ∨ r = w.heap.size + 1) → Ip Y) (h0 : I [] w)
    (Ax : α → Act → World → Prop) (hAx : ∀ x a', StayM (fun k => k = w.heap.size + 1) (fun (_ : Unit) X => Ax x a' X))
    (hassign : ∀ (l : Nat) (pre : List α) (x : α) (X : World) (K : Act → World → Prop), Gd pre x → w.heap.size + 1 < X.heap.size → I pre X → (∀ a' Y, KeptM (fun k => M k ∨ k = w.heap.size ∨ k = w.heap.size + 1) X Y → Below n₀ X Y → I pre Y → Ax x a' Y → K a' Y) →
      assign.wpIn (Fence.wide.inRound l) nb P (Exit.then K (fun _ _ _ => False)) { tmps := (ps.zip (encs x)).foldl (fun t (p, v) => t.setIfInBounds p v) a.tmps, defers := [] } X)
    (hbody : ∀ (l : Nat) (pre : List α) (x : α) (a' : Act) (X : World), l = w.heap.size + 1 → Gd pre x → (∃ r, X.heap[l]? = some (.loop r)) → I pre X → Ax x a' X → body.wpIn (Fence.wide.inRound l) nb P (postF (fun k => M k ∨ k = w.heap.size ∨ k = w.heap.size + 1) n₀ N ch I Ip pre x X) a' X)
    (hend : ∀ (D : Nat) (X : World), D = w.heap.size → Ip X → X.heap[D]? = some (.deferred (some [])) → Q (.panic ch) { a with defers := { target := .collected D, args := #[] } :: a.defers } X) :
    WpF f P (Code.rangeFunc g ps assign body) Q a w := by
  refine rangeFunc_panic (n := n) (ch := ch) ?_
  let R : LoopState → Option Code → Loop := fun st pe => { state := st, pending := pe, fn := f, tmps := a.tmps, params := ps, assign, body, defers := w.heap.size }
  obtain ⟨V, hV⟩ : ∃ V, (w.alloc (.deferred (some []))).alloc (.loop (R .ready none)) = V := ⟨_, rfl⟩
  have hVs : V.heap.size = w.heap.size + 2 := by rw [← hV]; simp
  have hwV : Below w.heap.size w V := by rw [← hV]; exact ((Below.refl _ w).alloc (Nat.le_refl _) _).alloc (by simp) _
  have hVl : V.heap[w.heap.size + 1]? = some (.loop (R .ready none)) := by
    rw [← hV]; have := World.alloc_heap_new (w.alloc (.deferred (some []))) (.loop (R .ready none)); rwa [World.size_alloc] at this
  have hVd : V.heap[w.heap.size]? = some (.deferred (some [])) := by
    rw [← hV]; exact (Below.heap_alloc _ _ _ (by simp)).trans (World.alloc_heap_new w _)
  have hVI : I [] V := hI.new h0 hwV
  refine ⟨w.heap.size + 1, [{ target := .collected w.heap.size, args := #[] }], V, { target := .fn (.func gf) lb, args := #[.func (.yield (w.heap.size + 1)) #[] #[]] }, V, gf, #[.func (.yield (w.heap.size + 1)) #[] #[]] ++ lb, V, ?_, ?_, ?_, ?_⟩
  · rw [← hV]; exact run_enterLoop_outer _ _ _ _ _
  · simp only [resolve, hg]; simp [go_sem]
  · simp [invoke, go_sem, eg]
  refine (hseq (w.heap.size + 1)
    (fun pre X => (I pre X ∧ X.heap[w.heap.size + 1]? = some (.loop (R .ready none))) ∧ X.heap[w.heap.size]? = some (.deferred (some [])))
    (fun X => Ip X ∧ X.heap[w.heap.size]? = some (.deferred (some [])))
    V (hb0.trans (hwV.mono hb0.size))
    (((hI.mono (fun k h => .inl h)).and (StayM.heap (fun h => by have := hM _ h; omega) (fun _ => _))).and (StayM.heap (fun h => by have := hM _ h; omega) (fun _ => _)))
    ?_ ?_ ⟨⟨hVI, hVl⟩, hVd⟩).mono ?_
  · rintro pre X Y row ⟨⟨hi, hl⟩, hd⟩ hgr hr
    exact ⟨hIp pre X Y row hi hgr (fun r e => .inl (hr r e)), (hgr.block _ (Array.getElem?_eq_some_iff.1 hd).1 (fun e => by have := hM _ (hr _ e.symm); omega)).trans hd⟩
  · rintro pre x X hgd ⟨⟨hi, hl⟩, hk⟩
    have hll : w.heap.size + 1 < X.heap.size := (Array.getElem?_eq_some_iff.1 hl).1
    refine ⟨f, _, assign, body, run_yield hl (hps x), ?_⟩
    refine RoundIn.mono (R := _) ?_ (fun _ _ h => h)
    suffices h : RoundIn Fence.wide nb P (w.heap.size + 1) f ((ps.zip (encs x)).foldl (fun t (p, v) => t.setIfInBounds p v) a.tmps) assign body X _ from ⟨h.1, fun c cs _ => h.2 c cs (room_of_none rfl _)⟩
    refine roundIn_panic hf0 (hassign _ pre x X _ hgd hll hi (fun a' Y hkY hbY hiY hax => ?_))
    have hlY : Y.heap[w.heap.size + 1]? = some (.loop (R .ready none)) := (hkY.2 _ (.inr (.inr rfl)) hll).trans hl
    have hkY2 : Y.heap[w.heap.size]? = some (.deferred (some [])) := (hkY.2 _ (.inr (.inl rfl)) (by omega)).trans hk
    refine ⟨_, run_beginRound hlY rfl, ?_⟩
    have hYl : w.heap.size + 1 < Y.heap.size := Nat.lt_of_lt_of_le hll hkY.1
    obtain ⟨Z, hZ⟩ : ∃ Z, Y.putObj (w.heap.size + 1) (.loop (R .busy none)) = Z := ⟨_, rfl⟩
    have hZ' : Y.putObj (w.heap.size + 1) (.loop { R .ready none with state := .busy }) = Z := hZ
    rw [hZ']
    have hZl : Z.heap[w.heap.size + 1]? = some (.loop (R .busy none)) := by rw [← hZ]; exact World.putObj_heap_same hYl
    have hZd : Z.heap[w.heap.size]? = some (.deferred (some [])) := by rw [← hZ]; exact (World.putObj_heap_other (by omega)).trans hkY2
    have hZI : I pre Z := by rw [← hZ]; exact hI.put _ hiY (.inr (.inr rfl))
    have hZA : Ax x a' Z := by rw [← hZ]; exact (hAx x a').put (s := ()) _ hax rfl
    have hZb : Below n₀ Y Z := by rw [← hZ]; exact below_put Y _ (by omega)
    have hZk : KeptM M Y Z := by rw [← hZ]; exact KeptM.put Y _ (fun h => by have := hM _ h; omega)
    have hZs : Z.heap.size = Y.heap.size := by rw [← hZ]; simp
    refine wpIn_mono (hbody _ pre x a' Z rfl hgd ⟨_, hZl⟩ hZI hZA) ?_
    rintro e a3 T hp
    cases e with
    | normal =>
      obtain ⟨hlt, hkT, hbT, hiT⟩ := hp
      have hTl : T.heap[w.heap.size + 1]? = some (.loop (R .busy none)) := (hkT.2 _ (.inr (.inr rfl)) (by omega)).trans hZl
      have hTd : T.heap[w.heap.size]? = some (.deferred (some [])) := (hkT.2 _ (.inr (.inl rfl)) (by omega)).trans hZd
      have hTs : w.heap.size + 1 < T.heap.size := (Array.getElem?_eq_some_iff.1 hTl).1
      refine ⟨_, _, run_endRound none hTl, .inl ⟨rfl, hlt, ⟨⟨hI.put _ hiT (.inr (.inr rfl)), World.putObj_heap_same hTs⟩, (World.putObj_heap_other (by omega)).trans hTd⟩, ?_, ?_⟩⟩
      · exact (hkY.mono (fun k h => .inl h)).trans (hZk.trans ((hkT.mono (fun k h => .inl h)).trans (KeptM.put T _ (fun h => by have := hM _ h; omega))))
      · exact hbY.trans (hZb.trans (hbT.trans (below_put T _ (by omega))))
    | panic c =>
      obtain ⟨rfl, hd3, hkT, hip⟩ := hp
      exact ⟨hd3, .inr ⟨rfl, hip, (hkT.2 _ (.inr (.inl rfl)) (by omega)).trans hZd⟩⟩
    | _ => exact hp.elim
  · rintro e X ⟨rfl, hip, hd⟩
    exact ⟨rfl, hend _ X rfl hip hd⟩
end Go.Proofs.YtjmfnafbjfceoaaDoor

/- item: the iterator over pieces where it, or what is done with a piece, gives up. -/
namespace Go.Proofs.YtjmfnafbjfceoaaDoor
open Go.RowKit Go.Shelf
attribute [local irreducible] lb wdG byA byC heL nuL
/-- What a wrong item's number is. -/
abbrev ch160 : List PanicEntry := [{ v := .iface 28 (.int .i64 160), recovered := false }]
set_option maxRecDepth 100000 in
set_option maxHeartbeats 4000000 in
theorem piecesF_in (n : Nat) (hn : 1 ≤ n) (l R2 n₀ B M N NB : Nat) (d : Int) (kd : Nat → Nat) (bd rs : Nat → List Nat) (v0 : Value) (J : List Value → World → Prop) (Jp : World → Prop) (w0 w : World) (hw0 : Below n₀ w0 w) (hn0 : n₀ ≤ w0.heap.size) (hn₀ : n₀ ≤ R2) (hB : B ≤ n₀) (hgR : 0 < n₀)
    (hR : RB w R2 v0 d M) (hv : Bt B w v0 (rs 0)) (hH : HD w0) (hP : ∀ i, i < NB → cutS (rs i) = some (kd i, bd i, rs (i + 1))) (hE : NB = N + 1 ∨ NB = N ∧ rs N ≠ [] ∧ cutS (rs N) = none) (hJ : StayM (fun k => k = R2) J)
    (hJp : ∀ pre X Y row, J pre X → X.grownBy Y row → (∀ r, row = some r → r = R2) → Jp Y)
    (hY : ∀ pre (x : Value) X, PcG B NB kd bd w0 pre x → J pre X → YieldAt Fence.wide 0 Tryd.prog l #[x] X fun e Y => (e = .returned (.bool true) ∧ pre.length < N ∧ J (pre ++ [x]) Y ∧ KeptM (fun k => k = R2) X Y ∧ Below n₀ X Y) ∨ (e = .panicked ch160 ∧ Jp Y))
    (h0 : J [] w) :
    CallsIn Fence.wide n Tryd.prog 84 #[.func (.yield l) #[] #[], .pointer (some ⟨R2, 0, none⟩)] w fun e Y => e = .panicked ch160 ∧ Jp Y := by
  refine callsIn_of_wp Tryd.func84 rfl trivial ?_ rfl
  simp only [Tryd.ntmps84, List.size_toArray, List.length_cons, List.length_nil, Nat.reduceAdd, Nat.reduceSub, Array.replicate_succ, Array.replicate_zero, List.push_toArray, List.append_toArray, List.nil_append, List.cons_append]
  have HY := Lib.hid hY
  have HP := Lib.hid hP
  clear hY hP
  gi_wp2_with fail
  gi_loopg [] NB (fun c wr => ∃ k v2 pre, c + k = NB ∧ k ≤ N ∧ pre.length = k ∧ J pre wr ∧ RB wr R2 v2 d M ∧ Bt B wr v2 (rs k) ∧ Below n₀ w0 wr)
  case atStart => exact ⟨0, v0, [], by simp, by omega, rfl, h0, hR, hv, hw0⟩
  case round =>
    clear h0 hR hv hw0
    obtain ⟨k, v2, pre, hk, hkN, hpl, hj, hR, hv, hw⟩ := hrel
    have hH2 : HD wr := fun j hj => (hw.cell (p := ⟨0, j, none⟩) hgR).trans (hH j hj)
    obtain ⟨x2, c2, rfl⟩ : ∃ x2 c2, v2 = .slice x2 (rs k).length c2 := by obtain ⟨_, x, c, e, _⟩ := hv; exact ⟨x, c, e⟩
    have k0 : wr.cell? ⟨R2, 0, none⟩ = some (.slice x2 (rs k).length c2) := cell_of_row wr _ 0 _ _ _ hR
    by_cases hlt : k < NB
    · have hcs := HP.out k hlt
      have hne : rs k ≠ [] := fun e => by rw [e] at hcs; cases hcs
      have hpos : 0 < (rs k).length := List.length_pos_iff.2 hne
      have hcut := cut_any B R2 _ (rs k) d M wr hR hv (Nat.le_trans hB hn₀) hH2 (Nat.lt_of_lt_of_le hgR hn₀)
      rw [hcs] at hcut
      have HC := Lib.hid hcut
      clear hcut
      have HK := Lib.hid (And.intro hk (And.intro hpl (And.intro hj (And.intro hw hcs))))
      obtain ⟨q, hq⟩ : ∃ q, (rs k).length = q := ⟨_, rfl⟩
      rw [hq] at k0 hpos
      have hqi : (0 : Int) < (q : Int) := by omega
      clear hk hpl hj hR hv hw hcs hne hq hH2
      gi_wp2_with fail
      refine ⟨trivial, (callsIn_wide.2 HC.out).mono ?_⟩
      rintro e w1 ⟨hg, y, m, c, rfl, hb, v3, hR3, hv3⟩
      rename_i K hK
      refine hK _ _ ?_
      clear hK K HC k0
      obtain ⟨hk, hpl, hj, hw, _⟩ := HK.out
      have hm : m = (bd k).length := by obtain ⟨_, x', c', e, _⟩ := hb; injection e
      subst hm
      have hw1 : Below n₀ w0 w1 := hw.grown hg (Nat.le_trans hn0 hw.size) (fun r e => by cases e; exact hn₀)
      have hyy := HY.out pre (.agg #[.int .i64 (kd k : Nat), .slice y (bd k).length c]) w1 ⟨by omega, y, c, by rw [hpl], by rw [hpl]; exact hb.back hB hn0 hw1⟩ (hJ _ _ _ _ hj hg (fun r e => by cases e; rfl))
      obtain ⟨fn, tmps, assign, body, hy, hRy⟩ := YieldAt.wide (m' := n - 1) hyy
      have HF := Lib.hid (And.intro hR3 (And.intro hv3 hw1))
      clear hyy hb hR3 hv3 hw1 hg hj hw HK
      gi_wp2_with fail
      refine hRy.mono ?_
      clear hRy hy
      rintro e Y (⟨rfl, hpN, hj, hkp, hbl⟩ | ⟨rfl, hjx⟩)
      · obtain ⟨hR3, hv3, hw1⟩ := HF.out
        have hR4 : RB Y R2 v3 d M := (hkp.2 R2 rfl hR3.lt).trans hR3
        have hv4 : Bt B Y v3 (rs (k + 1)) := hv3.below hB hbl
        have HE := Lib.hid (And.intro hj (And.intro hR4 (And.intro hv4 (hw1.trans hbl))))
        clear hj hkp hbl hR3 hv3 hw1 hR4 hv4 HF
        gi_wp2_with fail
        gi_roundg (gk - 1)
        case measure => omega
        case rel => exact ⟨k + 1, v3, _, by omega, by omega, by simp [hpl], HE.out⟩
      · have HE := Lib.hid hjx
        clear hjx HF
        gi_wp2_with fail
        exact ⟨rfl, rfl, HE.out⟩
    · obtain ⟨hNB, hne, hcs⟩ : NB = N ∧ rs N ≠ [] ∧ cutS (rs N) = none := by
        rcases hE with h | h
        · omega
        · exact h
      obtain rfl : k = N := by omega
      have hpos : 0 < (rs k).length := List.length_pos_iff.2 hne
      have hcut := cut_any B R2 _ (rs k) d M wr hR hv (Nat.le_trans hB hn₀) hH2 (Nat.lt_of_lt_of_le hgR hn₀)
      rw [hcs] at hcut
      have HC := Lib.hid hcut
      have HJP := Lib.hid (fun Y row => hJp pre wr Y row hj)
      clear hcut
      obtain ⟨q, hq⟩ : ∃ q, (rs k).length = q := ⟨_, rfl⟩
      rw [hq] at k0 hpos
      have hqi : (0 : Int) < (q : Int) := by omega
      clear hk hpl hj hR hv hw hcs hne hq hH2 hJp
      gi_wp2_with fail
      refine ⟨trivial, (callsIn_wide.2 HC.out).mono ?_⟩
      rintro e w1 ⟨hg, rfl⟩
      exact ⟨rfl, rfl, HJP.out w1 _ hg (fun r e => by cases e; rfl)⟩
/-- The iterator over an item's pieces, where it or what is done with a piece gives up. -/
theorem pieces_seqF (n R2 n₀ B M N NB : Nat) (d : Int) (kd : Nat → Nat) (bd rs : Nat → List Nat) (v0 : Value) (hn : 1 ≤ n) (w : World) (hn0 : n₀ ≤ w.heap.size) (hn₀ : n₀ ≤ R2) (hB : B ≤ n₀) (hgR : 0 < n₀)
    (hR : RB w R2 v0 d M) (hv : Bt B w v0 (rs 0)) (hH : HD w) (hP : ∀ i, i < NB → cutS (rs i) = some (kd i, bd i, rs (i + 1))) (hE : NB = N + 1 ∨ NB = N ∧ rs N ≠ [] ∧ cutS (rs N) = none) :
    SeqF n Tryd.prog 84 #[.pointer (some ⟨R2, 0, none⟩)] (fun x : Value => #[x]) n₀ (fun k => k = R2) (PcG B NB kd bd w) N ch160 w := fun l J Jp W hW hJ hJp hY h0 =>
  piecesF_in n hn l R2 n₀ B M N NB d kd bd rs v0 J Jp w W (hW.mono hn0) hn0 hn₀ hB hgR (hR.keep hW) (hv.new hW) hH hP hE hJ hJp hY h0
end Go.Proofs.YtjmfnafbjfceoaaDoor

