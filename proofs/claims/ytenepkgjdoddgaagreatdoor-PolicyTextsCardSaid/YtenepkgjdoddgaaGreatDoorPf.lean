/- Texts laid into one: Pf. -/
import Derived.Test.YtenepkgjdoddgaaGreatDoorSs
import Derived.Lib.IndexBytes
import Derived.Test.YtenepkgjdoddgaaGreatDoorIo
import Derived.Sort.QuietTacIn
import Derived.Sort.LoopGhostIn
/- policy's laws: what is between bytes (strings.Split), and strings.Index at one byte. -/
namespace Go.Proofs.YtenepkgjdoddgaaGreatDoor
open Go.RowKit Go.Shelf

/-- A text's parts between bytes. -/
def pcs (c : UInt8) (s : ByteArray) : List ByteArray := Lib.splitB ⟨#[c]⟩ 0 (Lib.countB s ⟨#[c]⟩) s
theorem one1 (c : UInt8) : 1 ≤ (ByteArray.mk #[c]).size := Nat.le_refl 1
theorem pcs_miss {c : UInt8} {s : ByteArray} (h : Lib.indexB s ⟨#[c]⟩ = -1) : pcs c s = [s] := by unfold pcs; exact Lib.splitB_miss _ _ _ _ h
theorem pcs_hit {c : UInt8} {s : ByteArray} {i : Nat} (h : Lib.indexB s ⟨#[c]⟩ = i) : pcs c s = s.extract 0 i :: pcs c (s.extract (i + 1) s.size) := by
  unfold pcs
  rw [Lib.countB_hit s ⟨#[c]⟩ i (one1 c) h, Nat.add_comm 1, Lib.splitB_hit _ _ _ _ _ h]
  rfl
theorem pcs_len (c : UInt8) (s : ByteArray) : (pcs c s).length = Lib.countB s ⟨#[c]⟩ + 1 := Lib.splitB_all _ (one1 c) _ _ _ rfl
theorem pcs_data (c : UInt8) (s : ByteArray) : (pcs c s).map (·.data.toList) = Lib.split s.data.toList [c] := by
  unfold pcs Lib.split
  rw [Lib.splitB_data]
theorem ixS_any (s : ByteArray) (c : UInt8) (w : World) :
    Calls Tryz.prog 140 #[.string s, .string ⟨#[c]⟩] w fun e w' => e = .returned (.int .i64 (Lib.indexB s ⟨#[c]⟩)) ∧ w' = w := by
  refine (Any.strings_Index_one lays143 s c w).mono ?_
  rintro e w' ⟨rfl, rfl⟩
  refine ⟨?_, rfl⟩
  show _ = Ending.returned (Value.int .i64 (Lib.index s.data.toList [c]))
  rw [Lib.index_one]
theorem ctS_any (s : ByteArray) (c : UInt8) (w : World) :
    Calls Tryz.prog 146 #[.string s, .string ⟨#[c]⟩] w fun e w' => e = .returned (.int .i64 (Lib.countB s ⟨#[c]⟩)) ∧ w' = w := by
  refine (Any.strings_Count_one (P := Tryz.prog) (ρ := lays146_ren) { lays146 with } s c w).mono ?_
  rintro e w' ⟨rfl, rfl⟩
  refine ⟨?_, rfl⟩
  show _ = Ending.returned (Value.int .i64 ((Lib.count s.data.toList [c] : Nat) : Int))
  rw [Lib.count_one]
  rfl
set_option maxRecDepth 100000 in
set_option maxHeartbeats 2000000 in
theorem split_any (s : ByteArray) (c : UInt8) (hs : s.size < 4294967281) (w : World) :
    Calls Tryz.prog 93 #[.string s, .string ⟨#[c]⟩] w fun e w' => e = .returned (.slice (some ⟨w.heap.size, 0, none⟩) (pcs c s).length (pcs c s).length) ∧ w' = w.alloc (.cells ((pcs c s).map Value.string).toArray 9) := by
  have hle := Lib.countB_le ⟨#[c]⟩ (one1 c) s.size s (Nat.le_refl _)
  have hc := Any.strings_genSplit_core (P := Tryz.prog) (ρ := lays146_ren) { lays146 with } (by kernel_rfl) s ⟨#[c]⟩ 0 (-1) (Lib.countB s ⟨#[c]⟩ + 1) w hs (one1 c) (Nat.zero_le _) (fun x cs _ => ixS_any x c _) (ctS_any s c w) (by decide) (by decide) (by rw [if_pos (by decide)]; omega)
  rw [Nat.add_sub_cancel] at hc
  have e1 : Lib.splitB ⟨#[c]⟩ 0 (Lib.countB s ⟨#[c]⟩) s = pcs c s := rfl
  rw [e1, ← pcs_len, Lib.cellsOf_full] at hc
  have hc' : Calls Tryz.prog 123 #[.string s, .string ⟨#[c]⟩, .int .i64 0, .int .i64 (-1)] w _ := hc
  go_enter Tryz.func93, Tryz.ntmps93
  go_wp2_with (go_at_call 123; refine hc'.mono ?_; rintro e w' ⟨rfl, hw⟩; rw [hw])
  go_ret
  exact ⟨rfl, rfl⟩
theorem cutSuffix_any (s p : ByteArray) (hs : s.size ≤ 9223372036854775807) (w : World) :
    Calls Tryz.prog 91 #[.string s, .string p] w fun e w' => e = .returned (.tuple #[.string ⟨(Lib.trimSuffix s.data.toList p.data.toList).toArray⟩, .bool (Lib.hasSuffix s.data.toList p.data.toList)]) ∧ w' = w :=
  Any.strings_CutSuffix lays104 s p w hs
theorem trimLeft_any (s : ByteArray) (c : UInt8) (hc : c.toNat < 128) (w : World) : Calls Tryz.prog 65 #[.string s, .string ⟨#[c]⟩] w fun e w' => e = .returned (.string ⟨(Lib.trimLeftB s.data.toList c).toArray⟩) ∧ w' = w := Any.strings_TrimLeft_one lays161 s c hc w
theorem parseUint_ok (s : ByteArray) (hs : s.size ≤ 9223372036854775806) (u : Nat) (h : Lib.parseUintB 32 s.data.toList = .ok u) (w : World) : Calls Tryz.prog 158 #[.string s, .int .i64 10, .int .i64 32] w fun e w' => e = .returned (.tuple #[.int .u64 u, .nilIface]) ∧ (w' = w ∨ w' = Lib.bytesWorld w 5 s) := Any.strconv_ParseUint_10_at32_ok laysPu14 s hs u h w
end Go.Proofs.YtenepkgjdoddgaaGreatDoor

/- A range over an iterator that writes blocks of a known set, and the first c blocks that it makes itself, and new ones alone: what the body makes, stays. -/
namespace Go.Proofs.YtenepkgjdoddgaaGreatDoor
open Go.RowKit Go.Shelf

/-- The blocks that an iterator begun at B holds: those in M, and c from B on. -/
def Hq (M : Nat → Prop) (c B : Nat) (k : Nat) : Prop := M k ∨ (B ≤ k ∧ k < B + c)
/-- What an iterator owes that writes blocks in M and new ones alone, of which it keeps the first c; Gd: what the caller is told of what comes next. -/
def SeqQ {α : Type} (n : Nat) (P : Program) (g : Nat) (lb : Array Value) (encs : α → Array Value) (n₀ : Nat) (M : Nat → Prop) (c : Nat) (Gd : List α → α → Prop) (S Sp : List α → Prop) (w : World) : Prop :=
  ∀ (l : Nat) (J Jx : List α → World → Prop) (W : World), Below w.heap.size w W → StayM (Hq M c W.heap.size) J → StayM (Hq M c W.heap.size) Jx →
    (∀ pre x X, Gd pre x → W.heap.size + c ≤ X.heap.size → J pre X → YieldAt Fence.wide 0 P l (encs x) X fun e Y => (e = .returned (.bool true) ∧ J (pre ++ [x]) Y ∧ KeptM (Hq M c W.heap.size) X Y ∧ Below n₀ X Y) ∨ (e = .returned (.bool false) ∧ Jx (pre ++ [x]) Y ∧ KeptM (Hq M c W.heap.size) X Y)) →
    J [] W →
    CallsIn Fence.wide n P g (#[.func (.yield l) #[] #[]] ++ lb) W fun e Y => (∃ v, e = .returned v) ∧ ((∃ xs, S xs ∧ J xs Y) ∨ (∃ pre, Sp pre ∧ Jx pre Y))

theorem wpIn_rangeQ {P : Program} {α : Type} {n : Nat} {g : Operand} {ps : Array Tmp} {assign body : Code} {Q : Exit → Act → World → Prop} {a : Act} {w : World}
    (h1 : 1 ≤ n) {gf : Nat} {lb : Array Value} (hg : a.eval g = .func (.func gf) #[] lb) (eg : ∀ args w, (callFunc gf args).run P w = .ok (.enter gf args) w)
    {encs : α → Array Value} {n₀ : Nat} {M : Nat → Prop} {nc : Nat} {Gd : List α → α → Prop} {S Sp : List α → Prop} {w0 : World} (hseq : SeqQ (n - 1) P gf lb encs n₀ M nc Gd S Sp w0) (hb0 : Below w0.heap.size w0 w) (hn₀ : n₀ ≤ w.heap.size) (hM : ∀ k, M k → k < w.heap.size) (hps : ∀ x, (encs x).size = ps.size)
    (I : List α → World → Prop) (Ix : Code → List α → World → Prop) (hI : StayM (fun k => Hq M nc (w.heap.size + 2) k ∨ k = w.heap.size ∨ k = w.heap.size + 1) I) (hIx : ∀ c, StayM (fun k => Hq M nc (w.heap.size + 2) k ∨ k = w.heap.size ∨ k = w.heap.size + 1) (Ix c)) (h0 : I [] w)
    (Ax : α → Act → World → Prop) (hAx : ∀ x a', StayM (fun k => k = w.heap.size + 1) (fun (_ : Unit) X => Ax x a' X))
    (hassign : ∀ (l : Nat) (pre : List α) (x : α) (X : World) (K : Act → World → Prop), Gd pre x → w.heap.size + 2 + nc ≤ X.heap.size → I pre X → (∀ a' Y, KeptM (fun k => Hq M nc (w.heap.size + 2) k ∨ k = w.heap.size ∨ k = w.heap.size + 1) X Y → Below n₀ X Y → I pre Y → Ax x a' Y → K a' Y) →
      assign.wpIn (Fence.wide.inRound l) (n - 1 - 1) P (Exit.then K (fun _ _ _ => False)) { tmps := (ps.zip (encs x)).foldl (fun t (p, v) => t.setIfInBounds p v) a.tmps, defers := [] } X)
    (hbody : ∀ (l : Nat) (pre : List α) (x : α) (a' : Act) (X : World), l = w.heap.size + 1 → Gd pre x → w.heap.size + 2 + nc ≤ X.heap.size → I pre X → Ax x a' X → body.wpIn (Fence.wide.inRound l) (n - 1 - 1) P (postM (fun k => Hq M nc (w.heap.size + 2) k ∨ k = w.heap.size ∨ k = w.heap.size + 1) n₀ I Ix (pre ++ [x]) X) a' X)
    (hdone : ∀ (D : Nat) (xs : List α) (X : World), D = w.heap.size → S xs → I xs X → X.heap[D]? = some (.deferred (some [])) → Q .normal { a with defers := { target := .collected D, args := #[] } :: a.defers } X)
    (hstop : ∀ (D : Nat) (c : Code) (pre : List α) (X : World), D = w.heap.size → Sp pre → Ix c pre X → X.heap[D]? = some (.deferred (some [])) → c.wpIn Fence.wide n P Q { a with defers := { target := .collected D, args := #[] } :: a.defers } X) :
    (Code.rangeFunc g ps assign body).wpIn Fence.wide n P Q a w := by
  have hMQ : ∀ k, Hq M nc (w.heap.size + 2) k → k ≠ w.heap.size ∧ k ≠ w.heap.size + 1 := fun k h => by rcases h with h | h <;> first | (have := hM _ h; omega) | omega
  refine wpIn_rangeFunc (fun fn hfn => ?_)
  have hro : Fence.wide.round = none := rfl
  rw [hro]
  let R : LoopState → Option Code → Loop := fun st pe => { state := st, pending := pe, fn, tmps := a.tmps, params := ps, assign, body, defers := w.heap.size }
  obtain ⟨V, hV⟩ : ∃ V, (w.alloc (.deferred (some []))).alloc (.loop (R .ready none)) = V := ⟨_, rfl⟩
  have hVs : V.heap.size = w.heap.size + 2 := by rw [← hV]; simp
  have hwV : Below w.heap.size w V := by rw [← hV]; exact ((Below.refl _ w).alloc (Nat.le_refl _) _).alloc (by simp) _
  have hVl : V.heap[w.heap.size + 1]? = some (.loop (R .ready none)) := by
    rw [← hV]; have := World.alloc_heap_new (w.alloc (.deferred (some []))) (.loop (R .ready none)); rwa [World.size_alloc] at this
  have hVd : V.heap[w.heap.size]? = some (.deferred (some [])) := by
    rw [← hV]; exact (Below.heap_alloc _ _ _ (by simp)).trans (World.alloc_heap_new w _)
  have hVI : I [] V := hI.new h0 hwV
  refine ⟨w.heap.size + 1, [{ target := .collected w.heap.size, args := #[] }], V, { target := .fn (.func gf) lb, args := #[.func (.yield (w.heap.size + 1)) #[] #[]] }, V, gf, #[.func (.yield (w.heap.size + 1)) #[] #[]] ++ lb, V, ?_, ?_, fun _ _ => trivial, ?_, fun _ => h1, ?_⟩
  · rw [← hV]; exact run_enterLoop_outer _ _ _ _ _
  · simp only [resolve, hg]; simp [go_sem]
  · simp [invoke, go_sem, eg]
  have hseq' := hseq (w.heap.size + 1)
    (fun pre X => (I pre X ∧ X.heap[w.heap.size + 1]? = some (.loop (R .ready none))) ∧ X.heap[w.heap.size]? = some (.deferred (some [])))
    (fun pre X => ∃ c, (Ix c pre X ∧ X.heap[w.heap.size + 1]? = some (.loop (R .done (some c)))) ∧ X.heap[w.heap.size]? = some (.deferred (some [])))
    V (hb0.trans (hwV.mono hb0.size))
  rw [hVs] at hseq'
  refine (hseq' ?s1 ?s2 ?yy ⟨⟨hVI, hVl⟩, hVd⟩).mono ?_
  case s1 => exact (((hI.mono (fun k h => .inl h)).and (StayM.heap (fun h => by have := hMQ _ h; omega) (fun _ => _))).and (StayM.heap (fun h => by have := hMQ _ h; omega) (fun _ => _)))
  case s2 => exact (StayM.ex fun c => (((hIx c).mono (fun k h => .inl h)).and (StayM.heap (fun h => by have := hMQ _ h; omega) (fun _ => _))).and (StayM.heap (fun h => by have := hMQ _ h; omega) (fun _ => _)))
  case yy =>
    rintro pre x X hgd hXc ⟨⟨hi, hl⟩, hk⟩
    have hll : w.heap.size + 1 < X.heap.size := (Array.getElem?_eq_some_iff.1 hl).1
    refine ⟨fn, _, assign, body, run_yield hl (hps x), ?_⟩
    refine RoundIn.mono (R := _) ?_ (fun _ _ h => h)
    suffices h : RoundIn Fence.wide (n - 1 - 1) P (w.heap.size + 1) fn ((ps.zip (encs x)).foldl (fun t (p, v) => t.setIfInBounds p v) a.tmps) assign body X _ from ⟨h.1, fun c cs _ => h.2 c cs (room_of_none rfl _)⟩
    refine roundIn_of_wpIn hfn (hassign _ pre x X _ hgd hXc hi (fun a' Y hkY hbY hiY hax => ?_))
    have hlY : Y.heap[w.heap.size + 1]? = some (.loop (R .ready none)) := (hkY.2 _ (.inr (.inr rfl)) hll).trans hl
    have hkY2 : Y.heap[w.heap.size]? = some (.deferred (some [])) := (hkY.2 _ (.inr (.inl rfl)) (by omega)).trans hk
    refine ⟨_, run_beginRound hlY rfl, ?_⟩
    have hYl : w.heap.size + 1 < Y.heap.size := Nat.lt_of_lt_of_le hll hkY.1
    obtain ⟨Z, hZ⟩ : ∃ Z, Y.putObj (w.heap.size + 1) (.loop (R .busy none)) = Z := ⟨_, rfl⟩
    have hZ' : Y.putObj (w.heap.size + 1) (.loop { R .ready none with state := .busy }) = Z := hZ
    rw [hZ']
    have hZl : Z.heap[w.heap.size + 1]? = some (.loop (R .busy none)) := by rw [← hZ]; exact World.putObj_heap_same hYl
    have hZd : Z.heap[w.heap.size]? = some (.deferred (some [])) := by rw [← hZ]; exact (World.putObj_heap_other (by omega)).trans hkY2
    have hZI : I pre Z := by rw [← hZ]; exact hI.put _ hiY (.inr (.inr rfl))
    have hZA : Ax x a' Z := by rw [← hZ]; exact (hAx x a').put (s := ()) _ hax rfl
    have hZb : Below n₀ Y Z := by rw [← hZ]; exact below_put Y _ (by omega)
    have hZk : KeptM (Hq M nc (w.heap.size + 2)) Y Z := by rw [← hZ]; exact KeptM.put Y _ (fun h => by have := hMQ _ h; omega)
    have hZs : Z.heap.size = Y.heap.size := by rw [← hZ]; simp
    have hYX := hkY.1
    have fin : ∀ (jump : Option Code) (T : World), KeptM (fun k => Hq M nc (w.heap.size + 2) k ∨ k = w.heap.size ∨ k = w.heap.size + 1) Z T → ∃ U, (Instr.endRound (w.heap.size + 1) jump).run P T = .ok (.bool jump.isNone) U ∧ U = T.putObj (w.heap.size + 1) (.loop (R (if jump.isNone then .ready else .done) jump)) ∧
        U.heap[w.heap.size + 1]? = some (.loop (R (if jump.isNone then .ready else .done) jump)) ∧ U.heap[w.heap.size]? = some (.deferred (some [])) := fun jump T hT => by
      have hTl : T.heap[w.heap.size + 1]? = some (.loop (R .busy none)) := (hT.2 _ (.inr (.inr rfl)) (by omega)).trans hZl
      have hTd : T.heap[w.heap.size]? = some (.deferred (some [])) := (hT.2 _ (.inr (.inl rfl)) (by omega)).trans hZd
      refine ⟨_, run_endRound jump hTl, rfl, World.putObj_heap_same (Array.getElem?_eq_some_iff.1 hTl).1, (World.putObj_heap_other (by omega)).trans hTd⟩
    refine wpIn_mono (hbody _ pre x a' Z rfl hgd (by omega) hZI hZA) ?_
    rintro e a3 T hp
    cases e with
    | normal =>
      obtain ⟨hkT, hbT, hiT⟩ := hp
      obtain ⟨U, hr, hU, hUl, hUd⟩ := fin none T hkT
      refine ⟨_, _, hr, .inl ⟨rfl, ⟨⟨by rw [hU]; exact hI.put _ hiT (.inr (.inr rfl)), hUl⟩, hUd⟩, ?_, ?_⟩⟩
      · exact (hkY.mono (fun k h => .inl h)).trans (hZk.trans ((hkT.mono (fun k h => .inl h)).trans (by rw [hU]; exact KeptM.put T _ (fun h => by have := hMQ _ h; omega))))
      · exact hbY.trans (hZb.trans (hbT.trans (by rw [hU]; exact below_put T _ (by omega))))
    | ret =>
      obtain ⟨U, hr, hU, hUl, hUd⟩ := fin (some .ret) T hp.1
      exact ⟨_, _, hr, .inr ⟨rfl, ⟨.ret, ⟨by rw [hU]; exact (hIx _).put _ hp.2 (.inr (.inr rfl)), hUl⟩, hUd⟩, (hkY.mono (fun k h => .inl h)).trans (hZk.trans ((hp.1.mono (fun k h => .inl h)).trans (by rw [hU]; exact KeptM.put T _ (fun h => by have := hMQ _ h; omega))))⟩⟩
    | exit id =>
      obtain ⟨U, hr, hU, hUl, hUd⟩ := fin (some (.exit id)) T hp.1
      exact ⟨_, _, hr, .inr ⟨rfl, ⟨.exit id, ⟨by rw [hU]; exact (hIx _).put _ hp.2 (.inr (.inr rfl)), hUl⟩, hUd⟩, (hkY.mono (fun k h => .inl h)).trans (hZk.trans ((hp.1.mono (fun k h => .inl h)).trans (by rw [hU]; exact KeptM.put T _ (fun h => by have := hMQ _ h; omega))))⟩⟩
    | goto t =>
      obtain ⟨U, hr, hU, hUl, hUd⟩ := fin (some (.goto t)) T hp.1
      exact ⟨_, _, hr, .inr ⟨rfl, ⟨.goto t, ⟨by rw [hU]; exact (hIx _).put _ hp.2 (.inr (.inr rfl)), hUl⟩, hUd⟩, (hkY.mono (fun k h => .inl h)).trans (hZk.trans ((hp.1.mono (fun k h => .inl h)).trans (by rw [hU]; exact KeptM.put T _ (fun h => by have := hMQ _ h; omega))))⟩⟩
    | panic ch => exact hp.elim
    | outgrown => exact hp.elim
  · rintro e X ⟨⟨v, rfl⟩, (⟨xs, hS, ⟨hi, hl⟩, hk⟩ | ⟨pre, hSp, c, ⟨hi, hl⟩, hk⟩)⟩
    · exact ⟨none, _, run_endLoop hl (by simp [R]), hdone _ xs _ rfl hS (hI.put _ hi (.inr (.inr rfl))) ((World.putObj_heap_other (by omega)).trans hk)⟩
    · exact ⟨some c, _, run_endLoop hl (by simp [R]), hstop _ c pre _ rfl hSp ((hIx c).put _ hi (.inr (.inr rfl))) ((World.putObj_heap_other (by omega)).trans hk)⟩
end Go.Proofs.YtenepkgjdoddgaaGreatDoor

/- slices of texts. -/
namespace Go.Proofs.YtenepkgjdoddgaaGreatDoor
open Go.RowKit Go.Shelf

set_option maxRecDepth 100000 in
theorem str_to (r : ByteArray) (i : Nat) (h : i ≤ r.size) (w : World) : (Instr.slice 9 (.string r) none (some (.int .i64 (i : Nat))) none).run Tryz.prog w = .ok (.string (r.extract 0 i)) w := by
  have hi0 : (0 : Int) ≤ (i : Int) := by omega
  have hil : (i : Int) ≤ (r.size : Nat) := by omega
  simp [go_sem, hi0, hil]
set_option maxRecDepth 100000 in
theorem str_from (r : ByteArray) (i : Nat) (h : i ≤ r.size) (w : World) : (Instr.slice 9 (.string r) (some (.int .i64 (i : Nat))) none none).run Tryz.prog w = .ok (.string (r.extract i r.size)) w := by
  have hi0 : (0 : Int) ≤ (i : Int) := by omega
  have hil : (i : Int) ≤ (r.size : Nat) := by omega
  simp [go_sem, hi0, hil]
end Go.Proofs.YtenepkgjdoddgaaGreatDoor

/- policy's laws: strings.SplitSeq at one byte, as an iterator. -/
namespace Go.Proofs.YtenepkgjdoddgaaGreatDoor
open Go.RowKit Go.Shelf

/-- The three boxes of the iterator. -/
def Bx3 (w : World) (B1 B2 B3 : Nat) (c : UInt8) (s : ByteArray) : Prop := Blk w B1 9 #[.string ⟨#[c]⟩] ∧ Blk w B2 9 #[.string s] ∧ Blk w B3 3 #[.int .i64 0]
theorem Bx3.keptM {X Y : World} {B1 B2 B3 : Nat} {c : UInt8} {s : ByteArray} {M : Nat → Prop} (h : Bx3 X B1 B2 B3 c s) (k : KeptM M X Y) (h1 : M B1) (h2 : M B2) (h3 : M B3) : Bx3 Y B1 B2 B3 c s :=
  ⟨(k.2 _ h1 h.1.lt).trans h.1, (k.2 _ h2 h.2.1.lt).trans h.2.1, (k.2 _ h3 h.2.2.lt).trans h.2.2⟩
/-- What comes next of a list. -/
def NextOf {α : Type} (L : List α) (pre : List α) (x : α) : Prop := ∃ k, pre = L.take k ∧ L[k]? = some x
theorem NextOf.len {α : Type} {L : List α} {k : Nat} {x : α} (h : L[k]? = some x) : L.take k ++ [x] = L.take (k + 1) := by rw [List.take_add_one, h]; rfl

theorem ix_facts (r s : ByteArray) (i : Nat) (h : i + 1 ≤ r.size) (h2 : r.size ≤ s.size) (hs : s.size < 4294967281) : i ≤ r.size ∧ wrap64 (i : Int) = (i : Int) ∧ wrap64 ((i : Int) + 1) = ((i + 1 : Nat) : Int) ∧ ¬ (i : Int) < 0 := by
  refine ⟨by omega, IntWalk.wrap64_in _ (by omega), ?_, by omega⟩
  rw [IntWalk.wrap64_in _ (by omega)]; omega
set_option maxRecDepth 100000 in
set_option maxHeartbeats 4000000 in
theorem splitSeq_in (n : Nat) (hn : 1 ≤ n) (l B1 B2 B3 n₀ : Nat) (c : UInt8) (s : ByteArray) (J Jx : List ByteArray → World → Prop) (w : World) (hs : s.size < 4294967281) (hd : B1 ≠ B2 ∧ B3 ≠ B2)
    (hB : Bx3 w B1 B2 B3 c s) (hJ : StayM (fun k => k = B1 ∨ k = B2 ∨ k = B3) J)
    (hY : ∀ pre (x : ByteArray) X, NextOf (pcs c s) pre x → w.heap.size ≤ X.heap.size → J pre X → YieldAt Fence.wide 0 Tryz.prog l #[.string x] X fun e Y => (e = .returned (.bool true) ∧ J (pre ++ [x]) Y ∧ KeptM (fun k => k = B1 ∨ k = B2 ∨ k = B3) X Y ∧ Below n₀ X Y) ∨ (e = .returned (.bool false) ∧ Jx (pre ++ [x]) Y ∧ KeptM (fun k => k = B1 ∨ k = B2 ∨ k = B3) X Y))
    (h0 : J [] w) :
    CallsIn Fence.wide n Tryz.prog 139 #[.func (.yield l) #[] #[], .pointer (some ⟨B1, 0, none⟩), .pointer (some ⟨B2, 0, none⟩), .pointer (some ⟨B3, 0, none⟩)] w fun e Y => (∃ v, e = .returned v) ∧
      ((∃ xs, xs = pcs c s ∧ J xs Y) ∨ (∃ pre, True ∧ Jx pre Y)) := by
  refine callsIn_of_wp Tryz.func139 rfl trivial ?_ rfl
  simp only [Tryz.ntmps139, List.size_toArray, List.length_cons, List.length_nil, Nat.reduceAdd, Nat.reduceSub, Array.replicate_succ, Array.replicate_zero, List.push_toArray, List.append_toArray, List.nil_append, List.cons_append]
  have HY := Lib.hid hY
  have HD := Lib.hid hd
  have HJ := Lib.hid hJ
  have c1 : w.cell? ⟨B1, 0, none⟩ = some (.string ⟨#[c]⟩) := cell_of_row w _ 0 _ _ _ hB.1
  have HB := Lib.hid (And.intro hB h0)
  clear hY hd hB h0 hJ
  gi_wp2_with fail
  clear c1
  gi_loopg [] (pcs c s).length (fun g wr => ∃ k r, g + k = (pcs c s).length ∧ pcs c r = (pcs c s).drop k ∧ r.size ≤ s.size ∧ J ((pcs c s).take k) wr ∧ Bx3 wr B1 B2 B3 c r ∧ w.heap.size ≤ wr.heap.size)
  case atStart => exact ⟨0, s, by omega, rfl, Nat.le_refl _, HB.out.2, HB.out.1, Nat.le_refl _⟩
  case round =>
    clear HB
    obtain ⟨k, r, hk, hr, hrs, hj, hB, hwz⟩ := hrel
    have HWZ := Lib.hid hwz
    clear hwz
    have c1 : wr.cell? ⟨B1, 0, none⟩ = some (.string ⟨#[c]⟩) := cell_of_row wr _ 0 _ _ _ hB.1
    have c2 : wr.cell? ⟨B2, 0, none⟩ = some (.string r) := cell_of_row wr _ 0 _ _ _ hB.2.1
    have c3 : wr.cell? ⟨B3, 0, none⟩ = some (.int .i64 0) := cell_of_row wr _ 0 _ _ _ hB.2.2
    have f2 := frozen_of_row wr _ 0 _ _ hB.2.1
    have HB := Lib.hid (And.intro hk (And.intro hr (And.intro hrs (And.intro hj hB))))
    clear hk hr hrs hj hB
    gi_wp2_with fail
    refine ⟨trivial, (callsIn_wide.2 (ixS_any r c wr)).mono ?_⟩
    rintro e w1 ⟨rfl, rfl⟩
    rename_i K hK
    refine hK _ _ ?_
    clear hK K
    rcases Lib.indexB_cases r ⟨#[c]⟩ with hi | ⟨i, hi, hir⟩
    · rw [hi]
      obtain ⟨hk, hr, hrs, hj, hB⟩ := HB.out
      rw [pcs_miss hi] at hr
      have hk1 : k + 1 = (pcs c s).length := by have := congrArg List.length hr; simp at this; omega
      have hx : (pcs c s)[k]? = some r := by rw [← List.head?_drop, ← hr]; rfl
      have hyy := HY.out ((pcs c s).take k) r w1 ⟨k, rfl, hx⟩ HWZ.out hj
      obtain ⟨fn, tmps, assign, body, hy, hRy⟩ := YieldAt.wide (m' := n - 1) hyy
      have he : (pcs c s).take k ++ [r] = pcs c s := by rw [NextOf.len hx, List.take_of_length_le (by omega)]
      rw [he] at hRy
      clear hk hr hrs hj hB hyy hx he hi c1 c3 f2
      gi_wp2_with fail
      refine hRy.mono ?_
      clear hRy hy
      rintro e Y (⟨rfl, hj, _, _⟩ | ⟨rfl, hj, _⟩)
      · have HE := Lib.hid hj
        clear hj
        gi_wp2_with fail
        go_end0
        exact ⟨⟨_, rfl⟩, .inl ⟨_, rfl, HE.out⟩⟩
      · have HE := Lib.hid hj
        clear hj
        gi_wp2_with fail
        go_end0
        exact ⟨⟨_, rfl⟩, .inr ⟨_, trivial, HE.out⟩⟩
    · rw [hi]
      obtain ⟨hk, hr, hrs, hj, hB⟩ := HB.out
      rw [pcs_hit hi] at hr
      have hir2 : i + 1 ≤ r.size := hir
      obtain ⟨hi0, g1, g2, hnl⟩ := ix_facts r s i hir2 hrs hs
      have s1 := str_to r i hi0
      have s2 := str_from r (i + 1) hir2
      have hszl : (r.extract (i + 1) r.size).size ≤ r.size := by rw [ByteArray.size_extract]; exact Nat.le_trans (Nat.sub_le _ _) (Nat.min_le_right _ _)
      obtain ⟨x, hxx⟩ : ∃ x, r.extract 0 i = x := ⟨_, rfl⟩
      obtain ⟨r2, hrr⟩ : ∃ r2, r.extract (i + 1) r.size = r2 := ⟨_, rfl⟩
      rw [hxx] at s1 hr
      rw [hrr] at s2 hr hszl
      obtain ⟨i1, hi1⟩ : ∃ i1, i + 1 = i1 := ⟨_, rfl⟩
      rw [hi1] at s2 g2
      have hsz : r2.size ≤ s.size := Nat.le_trans hszl hrs
      have hx : (pcs c s)[k]? = some x := by rw [← List.head?_drop, ← hr]; rfl
      have hr2 : pcs c r2 = (pcs c s).drop (k + 1) := by
        have := congrArg List.tail hr
        simp only [List.tail_cons, List.tail_drop] at this
        exact this
      have hk1 : k + 1 ≤ (pcs c s).length := by have := (List.getElem?_eq_some_iff.1 hx).1; omega
      have hyy := HY.out ((pcs c s).take k) x w1 ⟨k, rfl, hx⟩ HWZ.out hj
      obtain ⟨fn, tmps, assign, body, hy, hRy⟩ := YieldAt.wide (m' := n - 1) hyy
      rw [NextOf.len hx] at hRy
      have HK := Lib.hid (And.intro hk (And.intro hk1 (And.intro hr2 hsz)))
      have HBB := Lib.hid hB
      clear hk hr hrs hj hB hyy hx hi hk1 hr2 hsz hszl hir hir2 hxx hrr hi0 hi1
      gi_wp2_with fail
      refine hRy.mono ?_
      clear hRy hy
      rintro e Y (⟨rfl, hj, hkp, _⟩ | ⟨rfl, hj, _⟩)
      · have hB2 := HBB.out.keptM hkp (.inl rfl) (.inr (.inl rfl)) (.inr (.inr rfl))
        have d1 : Y.cell? ⟨B1, 0, none⟩ = some (.string ⟨#[c]⟩) := cell_of_row Y _ 0 _ _ _ hB2.1
        have d2 : Y.cell? ⟨B2, 0, none⟩ = some (.string r) := cell_of_row Y _ 0 _ _ _ hB2.2.1
        have e2 := frozen_of_row Y _ 0 _ _ hB2.2.1
        have HE := Lib.hid (And.intro hj hB2)
        have HY2 := Lib.hid (Nat.le_trans HWZ.out hkp.1)
        clear hj hkp hB2 c1 c2 c3 f2 g1
        gi_wp2_with fail
        have hG := grown_set' (grown_refl Y B2) 0 (.string r2)
        have hj2 := HJ.out _ _ _ (some B2) HE.out.1 hG (fun r e => by cases e; exact .inr (.inl rfl))
        have hb2 : Bx3 (Y.setCell ⟨B2, 0, none⟩ (.string r2)) B1 B2 B3 c r2 := ⟨HE.out.2.1.kept hG (fun e => HD.out.1 (Option.some.inj e)), heap_setCell_same Y B2 0 _ _ _ HE.out.2.2.1, HE.out.2.2.2.kept hG (fun e => HD.out.2 (Option.some.inj e))⟩
        gi_roundg (gk - 1)
        case measure => have := HK.out; omega
        case rel => exact ⟨k + 1, r2, by have := HK.out; omega, HK.out.2.2.1, HK.out.2.2.2, hj2, hb2, by rw [World.size_setCell]; exact HY2.out⟩
      · have HE := Lib.hid hj
        clear hj
        gi_wp2_with fail
        refine bodyPost_ret (results_none rfl _ _ _) rfl ?_
        exact ⟨⟨_, rfl⟩, .inr ⟨_, trivial, HE.out⟩⟩
/-- strings.SplitSeq's iterator. -/
theorem splitSeq_seq (n : Nat) (hn : 1 ≤ n) (B1 B2 B3 n₀ : Nat) (c : UInt8) (s : ByteArray) (w : World) (hs : s.size < 4294967281) (hd : B1 ≠ B2 ∧ B3 ≠ B2) (hB : Bx3 w B1 B2 B3 c s) :
    SeqQ n Tryz.prog 139 #[.pointer (some ⟨B1, 0, none⟩), .pointer (some ⟨B2, 0, none⟩), .pointer (some ⟨B3, 0, none⟩)] (fun x : ByteArray => #[.string x]) n₀ (fun k => k = B1 ∨ k = B2 ∨ k = B3) 0 (NextOf (pcs c s)) (fun xs => xs = pcs c s) (fun _ => True) w := fun l J Jx W hW hJ hJx hY h0 =>
  splitSeq_in n hn l B1 B2 B3 n₀ c s J Jx W hs hd ⟨hB.1.keep hW, hB.2.1.keep hW, hB.2.2.keep hW⟩ (hJ.mono (fun k h => .inl h))
    (fun pre x X h1 h2 h3 => (hY pre x X h1 (by omega) h3).mono (fun e Y h => h.imp (fun ⟨a, b, c, d⟩ => ⟨a, b, c.mono (fun k h => .inl h), d⟩) (fun ⟨a, b, c⟩ => ⟨a, b, c.mono (fun k h => .inl h)⟩))) h0
end Go.Proofs.YtenepkgjdoddgaaGreatDoor

