/- slot: the keys of a map, as an iterator. -/
import Derived.Test.YtcfnhilcpfiocaaStv
import Derived.Test.YtcfnhilcpfiocaaStj
import Derived.Test.YtcfnhilcpfiocaaIo
namespace Go.Proofs.Ytcfnhilcpfiocaa
open Go.RowKit Go.Shelf Go.ChangeMaps Go.MapKept

/-- What an iterator owes in one world that writes blocks in M and new ones alone. -/
def SeqAt {α : Type} (n : Nat) (P : Program) (g : Nat) (lb : Array Value) (encs : α → Array Value) (n₀ : Nat) (M : Nat → Prop) (Gd : List α → α → Prop) (S Sp : List α → Prop) (W : World) : Prop :=
  ∀ (l : Nat) (J Jx : List α → World → Prop), StayM M J → StayM M Jx →
    (∀ pre x X, Gd pre x → J pre X → YieldAt Fence.wide 0 P l (encs x) X fun e Y => (e = .returned (.bool true) ∧ J (pre ++ [x]) Y ∧ KeptM M X Y ∧ Below n₀ X Y) ∨ (e = .returned (.bool false) ∧ Jx (pre ++ [x]) Y ∧ KeptM M X Y)) →
    J [] W →
    CallsIn Fence.wide n P g (#[.func (.yield l) #[] #[]] ++ lb) W fun e Y => (∃ v, e = .returned v) ∧ ((∃ xs, S xs ∧ J xs Y) ∨ (∃ pre, Sp pre ∧ Jx pre Y))
theorem wpIn_rangeR {P : Program} {α : Type} {n : Nat} {g : Operand} {ps : Array Tmp} {assign body : Code} {Q : Exit → Act → World → Prop} {a : Act} {w : World}
    (h1 : 1 ≤ n) {gf : Nat} {lb : Array Value} (hg : a.eval g = .func (.func gf) #[] lb) (eg : ∀ args w, (callFunc gf args).run P w = .ok (.enter gf args) w)
    {encs : α → Array Value} {n₀ : Nat} {M : Nat → Prop} {Gd : List α → α → Prop} {S Sp : List α → Prop} (hseq : ∀ W, Below w.heap.size w W → W.heap.size = w.heap.size + 2 → SeqAt (n - 1) P gf lb encs n₀ M Gd S Sp W) (hn₀ : n₀ ≤ w.heap.size) (hM : ∀ k, M k → k ≠ w.heap.size ∧ k ≠ w.heap.size + 1) (hps : ∀ x, (encs x).size = ps.size)
    (I : List α → World → Prop) (Ix : Code → List α → World → Prop) (hI : StayM (fun k => M k ∨ k = w.heap.size ∨ k = w.heap.size + 1) I) (hIx : ∀ c, StayM (fun k => M k ∨ k = w.heap.size ∨ k = w.heap.size + 1) (Ix c)) (h0 : I [] w)
    (Ax : α → Act → World → Prop) (hAx : ∀ x a', StayM (fun k => k = w.heap.size + 1) (fun (_ : Unit) X => Ax x a' X))
    (hassign : ∀ (l : Nat) (pre : List α) (x : α) (X : World) (K : Act → World → Prop), Gd pre x → w.heap.size + 1 < X.heap.size → I pre X → (∀ a' Y, KeptM (fun k => M k ∨ k = w.heap.size ∨ k = w.heap.size + 1) X Y → Below n₀ X Y → I pre Y → Ax x a' Y → K a' Y) →
      assign.wpIn (Fence.wide.inRound l) (n - 1 - 1) P (Exit.then K (fun _ _ _ => False)) { tmps := (ps.zip (encs x)).foldl (fun t (p, v) => t.setIfInBounds p v) a.tmps, defers := [] } X)
    (hbody : ∀ (l : Nat) (pre : List α) (x : α) (a' : Act) (X : World), l = w.heap.size + 1 → Gd pre x → (∃ r, X.heap[l]? = some (.loop r)) → I pre X → Ax x a' X → body.wpIn (Fence.wide.inRound l) (n - 1 - 1) P (postM (fun k => M k ∨ k = w.heap.size ∨ k = w.heap.size + 1) n₀ I Ix (pre ++ [x]) X) a' X)
    (hdone : ∀ (D : Nat) (xs : List α) (X : World), D = w.heap.size → S xs → I xs X → X.heap[D]? = some (.deferred (some [])) → Q .normal { a with defers := { target := .collected D, args := #[] } :: a.defers } X)
    (hstop : ∀ (D : Nat) (c : Code) (pre : List α) (X : World), D = w.heap.size → Sp pre → Ix c pre X → X.heap[D]? = some (.deferred (some [])) → c.wpIn Fence.wide n P Q { a with defers := { target := .collected D, args := #[] } :: a.defers } X) :
    (Code.rangeFunc g ps assign body).wpIn Fence.wide n P Q a w := by
  refine wpIn_rangeFunc (fun fn hfn => ?_)
  have hro : Fence.wide.round = none := rfl
  rw [hro]
  let R : LoopState → Option Code → Loop := fun st pe => { state := st, pending := pe, fn, tmps := a.tmps, params := ps, assign, body, defers := w.heap.size }
  obtain ⟨V, hV⟩ : ∃ V, (w.alloc (.deferred (some []))).alloc (.loop (R .ready none)) = V := ⟨_, rfl⟩
  have hVs : V.heap.size = w.heap.size + 2 := by rw [← hV]; simp
  have hwV : Below w.heap.size w V := by rw [← hV]; exact ((Below.refl _ w).alloc (Nat.le_refl _) _).alloc (by simp) _
  have hVl : V.heap[w.heap.size + 1]? = some (.loop (R .ready none)) := by
    rw [← hV]; have := World.alloc_heap_new (w.alloc (.deferred (some []))) (.loop (R .ready none)); rwa [World.size_alloc] at this
  have hVd : V.heap[w.heap.size]? = some (.deferred (some [])) := by
    rw [← hV]; exact (Below.heap_alloc _ _ _ (by simp)).trans (World.alloc_heap_new w _)
  have hVI : I [] V := hI.new h0 hwV
  refine ⟨w.heap.size + 1, [{ target := .collected w.heap.size, args := #[] }], V, { target := .fn (.func gf) lb, args := #[.func (.yield (w.heap.size + 1)) #[] #[]] }, V, gf, #[.func (.yield (w.heap.size + 1)) #[] #[]] ++ lb, V, ?_, ?_, fun _ _ => trivial, ?_, fun _ => h1, ?_⟩
  · rw [← hV]; exact run_enterLoop_outer _ _ _ _ _
  · simp only [resolve, hg]; simp [go_sem]
  · simp [invoke, go_sem, eg]
  refine (hseq V hwV hVs (w.heap.size + 1)
    (fun pre X => (I pre X ∧ X.heap[w.heap.size + 1]? = some (.loop (R .ready none))) ∧ X.heap[w.heap.size]? = some (.deferred (some [])))
    (fun pre X => ∃ c, (Ix c pre X ∧ X.heap[w.heap.size + 1]? = some (.loop (R .done (some c)))) ∧ X.heap[w.heap.size]? = some (.deferred (some [])))
    (((hI.mono (fun k h => .inl h)).and (StayM.heap (fun h => by have := hM _ h; omega) (fun _ => _))).and (StayM.heap (fun h => by have := hM _ h; omega) (fun _ => _)))
    (StayM.ex fun c => (((hIx c).mono (fun k h => .inl h)).and (StayM.heap (fun h => by have := hM _ h; omega) (fun _ => _))).and (StayM.heap (fun h => by have := hM _ h; omega) (fun _ => _)))
    ?_ ⟨⟨hVI, hVl⟩, hVd⟩).mono ?_
  · rintro pre x X hgd ⟨⟨hi, hl⟩, hk⟩
    have hll : w.heap.size + 1 < X.heap.size := (Array.getElem?_eq_some_iff.1 hl).1
    refine ⟨fn, _, assign, body, run_yield hl (hps x), ?_⟩
    refine RoundIn.mono (R := _) ?_ (fun _ _ h => h)
    suffices h : RoundIn Fence.wide (n - 1 - 1) P (w.heap.size + 1) fn ((ps.zip (encs x)).foldl (fun t (p, v) => t.setIfInBounds p v) a.tmps) assign body X _ from ⟨h.1, fun c cs _ => h.2 c cs (room_of_none rfl _)⟩
    refine roundIn_of_wpIn hfn (hassign _ pre x X _ hgd hll hi (fun a' Y hkY hbY hiY hax => ?_))
    have hlY : Y.heap[w.heap.size + 1]? = some (.loop (R .ready none)) := (hkY.2 _ (.inr (.inr rfl)) hll).trans hl
    have hkY2 : Y.heap[w.heap.size]? = some (.deferred (some [])) := (hkY.2 _ (.inr (.inl rfl)) (by omega)).trans hk
    refine ⟨_, run_beginRound hlY rfl, ?_⟩
    have hYl : w.heap.size + 1 < Y.heap.size := Nat.lt_of_lt_of_le hll hkY.1
    obtain ⟨Z, hZ⟩ : ∃ Z, Y.putObj (w.heap.size + 1) (.loop (R .busy none)) = Z := ⟨_, rfl⟩
    have hZ' : Y.putObj (w.heap.size + 1) (.loop { R .ready none with state := .busy }) = Z := hZ
    rw [hZ']
    have hZl : Z.heap[w.heap.size + 1]? = some (.loop (R .busy none)) := by rw [← hZ]; exact World.putObj_heap_same hYl
    have hZd : Z.heap[w.heap.size]? = some (.deferred (some [])) := by rw [← hZ]; exact (World.putObj_heap_other (by omega)).trans hkY2
    have hZI : I pre Z := by rw [← hZ]; exact hI.put _ hiY (.inr (.inr rfl))
    have hZA : Ax x a' Z := by rw [← hZ]; exact (hAx x a').put (s := ()) _ hax rfl
    have hZb : Below n₀ Y Z := by rw [← hZ]; exact below_put Y _ (by omega)
    have hZk : KeptM M Y Z := by rw [← hZ]; exact KeptM.put Y _ (fun h => by have := hM _ h; omega)
    have hZs : Z.heap.size = Y.heap.size := by rw [← hZ]; simp
    have fin : ∀ (jump : Option Code) (T : World), KeptM (fun k => M k ∨ k = w.heap.size ∨ k = w.heap.size + 1) Z T → ∃ U, (Instr.endRound (w.heap.size + 1) jump).run P T = .ok (.bool jump.isNone) U ∧ U = T.putObj (w.heap.size + 1) (.loop (R (if jump.isNone then .ready else .done) jump)) ∧
        U.heap[w.heap.size + 1]? = some (.loop (R (if jump.isNone then .ready else .done) jump)) ∧ U.heap[w.heap.size]? = some (.deferred (some [])) := fun jump T hT => by
      have hTl : T.heap[w.heap.size + 1]? = some (.loop (R .busy none)) := (hT.2 _ (.inr (.inr rfl)) (by omega)).trans hZl
      have hTd : T.heap[w.heap.size]? = some (.deferred (some [])) := (hT.2 _ (.inr (.inl rfl)) (by omega)).trans hZd
      refine ⟨_, run_endRound jump hTl, rfl, World.putObj_heap_same (Array.getElem?_eq_some_iff.1 hTl).1, (World.putObj_heap_other (by omega)).trans hTd⟩
    refine wpIn_mono (hbody _ pre x a' Z rfl hgd ⟨_, hZl⟩ hZI hZA) ?_
    rintro e a3 T hp
    cases e with
    | normal =>
      obtain ⟨hkT, hbT, hiT⟩ := hp
      obtain ⟨U, hr, hU, hUl, hUd⟩ := fin none T hkT
      refine ⟨_, _, hr, .inl ⟨rfl, ⟨⟨by rw [hU]; exact hI.put _ hiT (.inr (.inr rfl)), hUl⟩, hUd⟩, ?_, ?_⟩⟩
      · exact (hkY.mono (fun k h => .inl h)).trans (hZk.trans ((hkT.mono (fun k h => .inl h)).trans (by rw [hU]; exact KeptM.put T _ (fun h => by have := hM _ h; omega))))
      · exact hbY.trans (hZb.trans (hbT.trans (by rw [hU]; exact below_put T _ (by omega))))
    | ret =>
      obtain ⟨U, hr, hU, hUl, hUd⟩ := fin (some .ret) T hp.1
      exact ⟨_, _, hr, .inr ⟨rfl, ⟨.ret, ⟨by rw [hU]; exact (hIx _).put _ hp.2 (.inr (.inr rfl)), hUl⟩, hUd⟩, (hkY.mono (fun k h => .inl h)).trans (hZk.trans ((hp.1.mono (fun k h => .inl h)).trans (by rw [hU]; exact KeptM.put T _ (fun h => by have := hM _ h; omega))))⟩⟩
    | exit id =>
      obtain ⟨U, hr, hU, hUl, hUd⟩ := fin (some (.exit id)) T hp.1
      exact ⟨_, _, hr, .inr ⟨rfl, ⟨.exit id, ⟨by rw [hU]; exact (hIx _).put _ hp.2 (.inr (.inr rfl)), hUl⟩, hUd⟩, (hkY.mono (fun k h => .inl h)).trans (hZk.trans ((hp.1.mono (fun k h => .inl h)).trans (by rw [hU]; exact KeptM.put T _ (fun h => by have := hM _ h; omega))))⟩⟩
    | goto t =>
      obtain ⟨U, hr, hU, hUl, hUd⟩ := fin (some (.goto t)) T hp.1
      exact ⟨_, _, hr, .inr ⟨rfl, ⟨.goto t, ⟨by rw [hU]; exact (hIx _).put _ hp.2 (.inr (.inr rfl)), hUl⟩, hUd⟩, (hkY.mono (fun k h => .inl h)).trans (hZk.trans ((hp.1.mono (fun k h => .inl h)).trans (by rw [hU]; exact KeptM.put T _ (fun h => by have := hM _ h; omega))))⟩⟩
    | panic ch => exact hp.elim
    | outgrown => exact hp.elim
  · rintro e X ⟨⟨v, rfl⟩, (⟨xs, hS, ⟨hi, hl⟩, hk⟩ | ⟨pre, hSp, c, ⟨hi, hl⟩, hk⟩)⟩
    · exact ⟨none, _, run_endLoop hl (by simp [R]), hdone _ xs _ rfl hS (hI.put _ hi (.inr (.inr rfl))) ((World.putObj_heap_other (by omega)).trans hk)⟩
    · exact ⟨some c, _, run_endLoop hl (by simp [R]), hstop _ c pre _ rfl hSp ((hIx c).put _ hi (.inr (.inr rfl))) ((World.putObj_heap_other (by omega)).trans hk)⟩

/-- How a yield ends, in one way. -/
def YMut (R0 : Nat) (n₀ : Nat) (J Jx : List Nat → World → Prop) (pre : List Nat) (X : World) (b : Bool) (Y : World) : Prop := (b = true → J pre Y ∧ KeptM (fun k => k = R0) X Y ∧ Below n₀ X Y) ∧ (b = false → Jx pre Y ∧ KeptM (fun k => k = R0) X Y)
theorem yMut {X : World} {R0 n₀ : Nat} {J Jx : List Nat → World → Prop} {pre : List Nat} {e : Ending} {Y : World} (h : (e = .returned (.bool true) ∧ J pre Y ∧ KeptM (fun k => k = R0) X Y ∧ Below n₀ X Y) ∨ (e = .returned (.bool false) ∧ Jx pre Y ∧ KeptM (fun k => k = R0) X Y)) : ∃ b, e = .returned (.bool b) ∧ YMut R0 n₀ J Jx pre X b Y := by
  rcases h with ⟨h1, h2⟩ | ⟨h1, h2⟩
  · exact ⟨true, h1, fun _ => h2, fun h => (by cases h)⟩
  · exact ⟨false, h1, fun h => (by cases h), fun _ => h2⟩
/-- Between two keys. -/
def KeL (b R0 : Nat) (m : Nat → Option (Nat × Nat)) (J : List Nat → World → Prop) (w2 : World) : Prop := ∃ left c pre, Rg w2 b R0 m left c ∧ J pre w2 ∧ (∀ x, x ∈ pre ↔ m x ≠ none ∧ left x = false) ∧ pre.Nodup ∧ R0 + 1 ≤ w2.heap.size
set_option maxRecDepth 100000 in
set_option maxHeartbeats 4000000 in
theorem keys1_in (n : Nat) (hn : 6 ≤ n) (L A1 b n₀ : Nat) (m : Nat → Option (Nat × Nat)) (J Jx : List Nat → World → Prop) (w : World) (hn₀ : n₀ ≤ w.heap.size) (hb : b < n₀) (hA : Blk w A1 41 #[.map (some b)]) (hm : Mp w b m) (hJ : StayM (fun k => k = w.heap.size) J)
    (hY : ∀ pre (x : Nat) X, (x < MM ∧ m x ≠ none ∧ x ∉ pre) → J pre X → YieldAt Fence.wide 0 Try.prog L #[W x] X fun e Y => (e = .returned (.bool true) ∧ J (pre ++ [x]) Y ∧ KeptM (fun k => k = w.heap.size) X Y ∧ Below n₀ X Y) ∨ (e = .returned (.bool false) ∧ Jx (pre ++ [x]) Y ∧ KeptM (fun k => k = w.heap.size) X Y))
    (h0 : J [] w) :
    CallsIn Fence.wide n Try.prog 50 #[.func (.yield L) #[] #[], .pointer (some ⟨A1, 0, none⟩)] w fun e Y => (∃ v, e = .returned v) ∧
      ((∃ xs, ((∀ k, k ∈ xs ↔ m k ≠ none) ∧ xs.Nodup) ∧ J xs Y) ∨ (∃ pre, True ∧ Jx pre Y)) := by
  have cA1 := cell_of_row _ _ 0 _ _ _ hA
  have HJ := Lib.hid (And.intro hJ (And.intro hn₀ hb))
  have HY := Lib.hid hY
  have HM := Lib.hid (And.intro hm h0)
  clear hJ hn₀ hb hY hA hm h0
  refine callsIn_of_wp Try.func50 rfl trivial ?_ rfl
  simp only [Try.ntmps50, List.size_toArray, List.length_cons, List.length_nil, Nat.reduceAdd, Nat.reduceSub, Array.replicate_succ, Array.replicate_zero, List.push_toArray, List.append_toArray, List.nil_append, List.cons_append]
  obtain ⟨Y, cnt, hrun, hR, hB, hs⟩ := HM.out.1.range und_mq
  have hjY : J [] Y := HJ.out.1.new HM.out.2 hB
  have HR := Lib.hid (And.intro hR (And.intro hjY (And.intro hB hs)))
  clear hR hB hs hjY
  gi_wp2_with fail
  obtain ⟨R0, hR0⟩ : ∃ R0, w.heap.size = R0 := ⟨_, rfl⟩
  rw [hR0] at HR HJ HY ⊢
  clear hR0 hrun cA1
  gi_loopw [] (fun w2 => KeL b R0 m J w2) (fun w2 => w2.rangeLeft b R0)
  case atStart => exact ⟨_, _, [], HR.out.1, HR.out.2.1, fun x => ⟨fun h => (by cases h), fun h => (by have h1 := h.1; have h2 := h.2; cases hv : m x with | none => exact absurd hv h1 | some v => rw [hv] at h2; cases h2)⟩, List.nodup_nil, by rw [HR.out.2.2.2]; exact Nat.le_refl _⟩
  case round =>
    obtain ⟨left, c2, pre2, hR, hj, hcov, hnd, hsz⟩ := hrel
    rcases hR.next with ⟨hc, hdone, hrun⟩ | ⟨x, v, Y1, c3, hx, hv, hxv, hleft, hrun, hR1, hlt, hC1, hs1, hen⟩
    · have HX := Lib.hid (And.intro hj (And.intro hcov (And.intro hdone hnd)))
      clear hR hj hcov hdone hnd
      gi_wp2_with fail
      go_end0
      exact ⟨⟨_, rfl⟩, .inl ⟨pre2, ⟨fun k => ⟨fun h => ((HX.out.2.1 k).1 h).1, fun h => (HX.out.2.1 k).2 ⟨h, by cases hv : m k with | none => exact absurd hv h | some v => exact HX.out.2.2.1 k v hv⟩⟩, HX.out.2.2.2⟩, HX.out.1⟩⟩
    · have hj1 : J pre2 Y1 := HJ.out.1 _ _ _ (some R0) hj hC1.grown (fun r e => by cases e; rfl)
      have hal := balloc (Below.refl Y1.heap.size Y1) (.cells (Wc x) 25)
      obtain ⟨W2, hW2⟩ : ∃ W2, Y1.alloc (.cells (Wc x) 25) = W2 := ⟨_, rfl⟩
      have hN : Blk W2 Y1.heap.size 25 (Wc x) := by rw [← hW2]; exact Blk.new _ _ _
      rw [hW2] at hal
      rw [hs1] at hN
      have hj2 : J pre2 W2 := HJ.out.1.new hj1 hal
      have hR2 := hR1.keep hal
      have hnx : x ∉ pre2 := fun h => by have := ((hcov x).1 h).2; rw [hleft] at this; cases this
      obtain ⟨fn, tmps, assign, body, hy, hRd⟩ := YieldAt.wide (m' := n - 1) (HY.out pre2 x W2 ⟨hx, by rw [hxv]; simp, hnx⟩ hj2)
      have k0 := cell_of_row _ _ 0 _ _ _ hN
      have k1 := cell_of_row _ _ 1 _ _ _ hN
      have k2 := cell_of_row _ _ 2 _ _ _ hN
      have k3 := cell_of_row _ _ 3 _ _ _ hN
      have hlft := hR.left_eq
      have HX := Lib.hid (And.intro hR2 (And.intro hcov (And.intro hnd (And.intro (And.intro hx (And.intro hxv hnx)) (And.intro hlt (And.intro hsz (And.intro hs1 (And.intro hal (And.intro hleft hlft)))))))))
      have HRD := Lib.hid hRd
      have HW2 := Lib.hid hW2
      rw [← hW2] at hy
      clear hR hj hcov hnd hv hxv hleft hR1 hlt hC1 hN hj1 hj2 hR2 hal hW2 hRd hnx hlft
      gi_wp2_with fail
      rw [HW2.out]
      refine ⟨fun _ => by omega, HRD.out.mono ?_⟩
      rintro e Y2 hye
      obtain ⟨bb, rfl, hYb⟩ := yMut hye
      clear hye hy HRD
      have hR2 := HX.out.1
      have hs2 := HX.out.2.2.2.2.2.2.2.1.size
      have hs3 := HX.out.2.2.2.2.2.2.1
      have hs4 := HX.out.2.2.2.2.2.1
      have hszz : R0 + 1 ≤ W2.heap.size := by omega
      clear hs2 hs3 hs4
      cases bb with
      | true =>
        obtain ⟨hjY, hkY, hbY⟩ := hYb.1 rfl
        have hRY : Rg Y2 b R0 m (fun i => left i && decide (i ≠ x)) c3 := hR2.of_blocks (hbY.block _ HJ.out.2.2) (hkY.2 R0 rfl (by omega))
        have HE := Lib.hid (show KeL b R0 m J Y2 ∧ Y2.rangeLeft b R0 < wr.rangeLeft b R0 from ⟨⟨_, _, _, hRY, hjY, fun y => by
            rw [List.mem_append, List.mem_singleton, HX.out.2.1 y]
            by_cases e : y = x
            · subst e; simp [HX.out.2.2.2.1.2.1]
            · simp [e], List.nodup_append.2 ⟨HX.out.2.2.1, by simp, fun a ha c hc => by simp at hc; subst hc; exact fun e => HX.out.2.2.2.1.2.2 (e ▸ ha)⟩, Nat.le_trans hszz hkY.1⟩, by rw [hRY.left_eq, HX.out.2.2.2.2.2.2.2.2.2]; exact HX.out.2.2.2.2.1⟩)
        clear hjY hkY hbY hRY hR2 hYb hszz k0 k1 k2 k3
        gi_wp2_with fail
        exact ⟨HE.out.1, HE.out.2⟩
      | false =>
        have HF := Lib.hid (hYb.2 rfl).1
        clear hYb hR2 hszz k0 k1 k2 k3
        gi_wp2_with fail
        exact bodyPost_ret (v := .tuple #[]) (results_none rfl _ _ _) rfl ⟨⟨_, rfl⟩, .inr ⟨_, trivial, HF.out⟩⟩

end Go.Proofs.Ytcfnhilcpfiocaa
