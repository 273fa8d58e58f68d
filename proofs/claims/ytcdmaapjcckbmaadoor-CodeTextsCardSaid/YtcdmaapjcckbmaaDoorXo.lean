/- code: ops, Marks. -/
import Derived.Test.YtcdmaapjcckbmaaDoorXn
namespace Go.Proofs.YtcdmaapjcckbmaaDoor
open Go.RowKit Go.Shelf

theorem enters_ops : ∀ args w, (callFunc 64 args).run Tryd.prog w = .ok (.enter 64 args) w := enters_of Tryd.func64 (by kernel_rfl) rfl
theorem ops_any (x : Option Addr) (n c : Nat) (w : World) : Calls Tryd.prog 38 #[.slice x n c] w fun e w' => e = .returned (.func (.func 64) #[] #[.pointer (some ⟨w.heap.size, 0, none⟩)]) ∧ w' = w.alloc (.cells #[.slice x n c] 32) := by
  have hmf : ∀ (fn : Fn) (first cap : Array Value) (w : World), (Instr.makeFunc fn first cap).run Tryd.prog w = .ok (.func fn first cap) w := fun _ _ _ _ => rfl
  go_enter Tryd.func38, Tryd.ntmps38
  go_wp2_with fail
  go_ret
  exact ⟨rfl, rfl⟩
/-- Numbers as a row of ints. -/
def ivs (l : List Nat) : List Value := l.map fun x => Value.int .i64 (x : Nat)
def OwI (X : World) (base : Nat) (v : Value) (l : List Nat) : Prop := X.ownsRow base 3 1 v l.length (ivs l)
theorem infoIn : (Tryd.prog.info? 3).map (fun i => (i.zero, i.size, i.bytes)) = some (some (.int .i64 0), 1, 8) := by kernel_rfl
theorem undIn : Tryd.prog.underlying 33 = some (.slice 3) := by kernel_rfl
theorem app_int (X : World) (base : Nat) (v : Value) (l : List Nat) (x ty : Nat) (h : OwI X base v l) (hb : base ≤ X.heap.size) (hl : l.length ≤ 1000000) :
    ∃ y c w', (Builtin.append_ #[33, 33] ty #[v, .slice (some ⟨X.heap.size, 0, none⟩) 1 1]).run Tryd.prog (X.alloc (.cells #[.int .i64 (x : Nat)] 3)) = .ok (.slice y (l ++ [x]).length c) w' ∧ OwI w' base (.slice y (l ++ [x]).length c) (l ++ [x]) ∧ (X.alloc (.cells #[.int .i64 (x : Nat)] 3)).grownBy w' v.ownBlock := by
  obtain ⟨i0, hi, hz0, hz1, hz2⟩ := info_parts' infoIn
  obtain ⟨v', w', h1, h2, h3, _⟩ := run_append_own (P := Tryd.prog) (X.alloc (.cells #[.int .i64 (x : Nat)] 3)) base 33 ty 3 i0 (.int .i64 0) 1 8 undIn hi hz0 hz1 hz2 rfl (by decide) v l.length (ivs l) (h.alloc _) ⟨X.heap.size, 0, none⟩ 1 1 [.int .i64 (x : Nat)] rfl
    (by
      intro j u hj
      have hN := Blk.new X 3 #[.int .i64 (x : Nat)]
      rcases j with _ | j
      · simp at hj; subst hj; exact cell_of_row _ _ 0 _ _ _ hN
      · simp at hj)
    (fun u hu => by simp at hu; subst hu; rfl) (by unfold maxLen; omega) (by omega) (by rw [World.size_alloc]; omega)
  have h2' : OwI w' base v' (l ++ [x]) := by
    unfold OwI ivs
    rw [List.map_append, List.length_append]
    exact h2
  obtain ⟨y, c, rfl, _⟩ := owns_slice h2'
  exact ⟨y, c, w', h1, h2', h3⟩
/-- The marks among the first k ops. -/
def mkK (l : List Nat) (k : Nat) : List Nat := ((List.range k).filter fun j => opB l j == 91).map (pos l)
def mkL (l : List Nat) : List Nat := mkK l (opsN l)
theorem mkK_hit (l : List Nat) (k : Nat) (h : opB l k = 91) : mkK l (k + 1) = mkK l k ++ [pos l k] := by
  unfold mkK; rw [List.range_succ, List.filter_append, List.map_append]; simp [h]
theorem mkK_miss (l : List Nat) (k : Nat) (h : opB l k ≠ 91) : mkK l (k + 1) = mkK l k := by
  unfold mkK; rw [List.range_succ, List.filter_append, List.map_append]; simp [h]
theorem mkK_len (l : List Nat) (k : Nat) : (mkK l k).length ≤ k := by
  unfold mkK; rw [List.length_map]; exact Nat.le_trans (List.length_filter_le _ _) (by simp)

/-- An append inside a fence, its run at hand. -/
theorem wpIn_append_run {F : Fence} {nF : Nat} {P : Program} {w : World} {o : Oper} {a : Act} {K : Act → World → Prop} {Q : Exit → Act → World → Prop} (s x : Operand) (t : TypeId)
    (ho : o.op = .call { callee := .builtin .append, args := #[s, x], argTypes := #[t, t] }) {v u v' : Value} {w' : World} (hs : a.eval s = v) (hx : a.eval x = u)
    (hr : (Builtin.append_ #[t, t] o.type #[v, u]).run P w = .ok v' w') (hK : K (a.put o.dst v') w') : Oper.wpIn F nF P o a w K Q := by
  unfold Oper.wpIn
  refine ⟨by simp [Oper.about, ho, resolve, Target.leads, Sem.run_pure], ?_⟩
  rw [Oper.semAt_plain F _ _ (by rw [ho]; intro c hc'; cases hc')]
  simp [execOp, ho, resolve, invoke, builtin, hs, hx, hr, Result.andThen]
  exact hK
theorem own_fresh {X : World} {base k size : Nat} {e : TypeId} {v : Value} {n : Nat} {xs : List Value} (h : X.ownsRow base e size v n xs) (hk : k < base) : v.ownBlock = none ∨ v.ownBlock ≠ some k := by
  cases hv : v.ownBlock with
  | none => exact .inl rfl
  | some g => exact .inr fun e => by cases e; have := (h.lt k hv).1; omega
/-- Marks: what stands between two rounds. -/
def MKI (B b : Nat) (sl : Value) (l : List Nat) (w : World) (pre : List Nat) (X : World) : Prop :=
  (∃ y c, Blk X b 33 #[.slice y (mkK l pre.length).length c] ∧ OwI X (b + 4) (.slice y (mkK l pre.length).length c) (mkK l pre.length)) ∧ (Blk X (b + 1) 32 #[sl] ∧ Bto B X sl l) ∧ Below b w X
theorem MKI.stay {B b : Nat} {sl : Value} {l : List Nat} {w : World} (hB : B ≤ b) (hb : b ≤ w.heap.size) : StayM (fun k => noM k ∨ k = b + 2 ∨ k = b + 2 + 1) (MKI B b sl l w) := fun pre X Y row h hg hr => by
  obtain ⟨⟨y, c, h1, h2⟩, ⟨h3, h4⟩, h5⟩ := h
  have hne : ∀ r, row = some r → r = b + 2 ∨ r = b + 3 := fun r e => by rcases hr r e with h | h | h; exact h.elim; exact .inl h; exact .inr h
  refine ⟨⟨y, c, h1.kept hg (fun e => by rcases hne _ e.symm with h | h <;> omega), ?_⟩, ⟨h3.kept hg (fun e => by rcases hne _ e.symm with h | h <;> omega), h4.kept hg.size (fun i hi hx => hg.block i hx (fun e => by rcases hne _ e.symm with h | h <;> omega))⟩, h5.grown hg (Nat.le_trans hb h5.size) (fun r e => by rcases hne r e with h | h <;> omega)⟩
  refine World.ownsRow.kept h2 hg ?_
  cases hrow : row with
  | none => cases hv : (Value.slice y (mkK l pre.length).length c).ownBlock <;> simp
  | some r => exact own_fresh h2 (by rcases hne r hrow with h | h <;> omega)
theorem marks_step {B b n : Nat} {sl : Value} {l L : List Nat} {w X w2 : World} {y y2 : Option Addr} {m c c2 : Nat} {o : Obj} (hB : B ≤ b) (_ : b ≤ w.heap.size) (h1 : Blk w2 b 33 #[.slice y m c]) {xs : List Value} (h2 : X.ownsRow (b + 4) 3 1 (.slice y m c) m xs) (h3 : Blk X (b + 1) 32 #[sl] ∧ Bto B X sl l) (h5 : Below b w X) (hX : b + 4 ≤ X.heap.size)
    (hO : OwI w2 (b + 4) (.slice y2 n c2) L) (hG : (X.alloc o).grownBy w2 (Value.slice y m c).ownBlock) (_ : L = L) :
    (Blk (w2.setCell ⟨b, 0, none⟩ (.slice y2 n c2)) b 33 #[.slice y2 n c2] ∧ OwI (w2.setCell ⟨b, 0, none⟩ (.slice y2 n c2)) (b + 4) (.slice y2 n c2) L) ∧ (Blk (w2.setCell ⟨b, 0, none⟩ (.slice y2 n c2)) (b + 1) 32 #[sl] ∧ Bto B (w2.setCell ⟨b, 0, none⟩ (.slice y2 n c2)) sl l) ∧ Below b w (w2.setCell ⟨b, 0, none⟩ (.slice y2 n c2)) ∧ Below b X (w2.setCell ⟨b, 0, none⟩ (.slice y2 n c2)) ∧
      KeptM (fun k => noM k ∨ k = b + 2 ∨ k = b + 2 + 1) X (w2.setCell ⟨b, 0, none⟩ (.slice y2 n c2)) := by
  have hob : ∀ k, k < b + 4 → some k ≠ (Value.slice y m c).ownBlock := fun k hk e => by rcases own_fresh h2 hk with h | h; rw [h] at e; cases e; exact h e.symm
  have hS := grown_set' (grown_refl w2 b) 0 (.slice y2 n c2)
  have hkeep : ∀ k, k < b + 4 → k ≠ b → k < X.heap.size → (w2.setCell ⟨b, 0, none⟩ (.slice y2 n c2)).heap[k]? = X.heap[k]? := fun k hk hne hx => by
    have e1 := hS.block k (Nat.lt_of_lt_of_le (by rw [World.size_alloc]; omega) hG.size) (fun e => hne (Option.some.inj e))
    have e2 := hG.block k (by rw [World.size_alloc]; omega) (hob k hk)
    exact e1.trans (e2.trans (Below.heap_alloc _ _ _ hx))
  have hsz : X.heap.size ≤ (w2.setCell ⟨b, 0, none⟩ (.slice y2 n c2)).heap.size := by have := hG.size; rw [World.size_alloc] at this; have := hS.size; omega
  have hBX : Below b X (w2.setCell ⟨b, 0, none⟩ (.slice y2 n c2)) := ⟨hS.os.trans hG.os, hS.tape.trans hG.tape, hS.output.trans hG.output, hsz, fun k hk => hkeep k (by omega) (by omega) (by omega)⟩
  refine ⟨⟨heap_setCell_same w2 b 0 _ _ _ h1, World.ownsRow.kept hO hS (own_fresh hO (by omega))⟩, ⟨(hkeep _ (by omega) (by omega) (by omega)).trans h3.1, h3.2.kept hsz (fun k hk hx => hkeep k (by omega) (by omega) hx)⟩, h5.trans hBX, hBX, hsz, fun k hk hx => ?_⟩
  rcases hk with h | h | h
  · exact h.elim
  · exact hkeep k (by omega) (by omega) hx
  · exact hkeep k (by omega) (by omega) hx
attribute [local go_sem] Oper.semAt_some
set_option maxRecDepth 100000 in
set_option maxHeartbeats 4000000 in
theorem marks_any (B : Nat) (v : Value) (l : List Nat) (hl : l.length ≤ 1000) (w : World) (hB : B ≤ w.heap.size) (hv : Bto B w v l) : Calls Tryd.prog 16 #[v] w fun e w' => ∃ y c, e = .returned (.slice y (mkL l).length c) ∧ OwI w' w.heap.size (.slice y (mkL l).length c) (mkL l) ∧ Below w.heap.size w w' := by
  obtain ⟨x0, c0, rfl⟩ : ∃ x0 c0, v = .slice x0 l.length c0 := by obtain ⟨_, x, c, h, _⟩ := hv; exact ⟨x, c, h⟩
  have HV := Lib.hid hv
  have HL := Lib.hid (And.intro hl hB)
  obtain ⟨n, hn⟩ : ∃ n, l.length = n := ⟨_, rfl⟩
  have HN := Lib.hid hn
  rw [hn] at HV ⊢
  clear hv hl hB hn
  refine (callsIn_wide (n := 20)).1 ?_
  refine callsIn_of_wp_marks Tryd.func16 rfl trivial ?_ rfl
  simp only [Tryd.ntmps16, List.size_toArray, List.length_cons, List.length_nil, Nat.reduceAdd, Nat.reduceSub, Array.replicate_succ, Array.replicate_zero, List.push_toArray, List.append_toArray, List.nil_append, List.cons_append]
  refine (wpIn_wide (n := 20)).2 ?_
  go_wp2_with (first | (go_at_call 38; refine (ops_any _ _ _ _).mono ?_; rintro e w1 ⟨rfl, rfl⟩) | fail)
  have b0 : Blk ((w.alloc (.cells #[.slice none 0 0] 33)).alloc (.cells #[.slice x0 n c0] 32)) w.heap.size 33 #[.slice none 0 0] := (Blk.new _ _ _).alloc _
  have b1 : Blk ((w.alloc (.cells #[.slice none 0 0] 33)).alloc (.cells #[.slice x0 n c0] 32)) (w.heap.size + 1) 32 #[.slice x0 n c0] := Blk.newS w _ _ _
  have hW : Below w.heap.size w ((w.alloc (.cells #[.slice none 0 0] 33)).alloc (.cells #[.slice x0 n c0] 32)) := balloc (balloc (Below.refl _ _) _) _
  have hsz : ((w.alloc (.cells #[.slice none 0 0] 33)).alloc (.cells #[.slice x0 n c0] 32)).heap.size = w.heap.size + 2 := by simp
  obtain ⟨W0, hW0⟩ : ∃ W0, ((w.alloc (.cells #[.slice none 0 0] 33)).alloc (.cells #[.slice x0 n c0] 32)) = W0 := ⟨_, rfl⟩
  rw [hW0] at b0 b1 hW hsz ⊢
  clear hW0
  have hVW : Bto B W0 (.slice x0 n c0) l := HV.out.new hW
  have hI0 : MKI B w.heap.size (.slice x0 n c0) l w [] W0 := ⟨⟨none, 0, b0, World.ownsRow_nil _ _ _ _⟩, ⟨b1, hVW⟩, hW⟩
  have HSZ := Lib.hid hsz
  refine (wpIn_wide (n := 20)).1 ?_
  refine wpIn_rangeV (n := 20) (by omega) (gf := 64) (lb := #[.pointer (some ⟨w.heap.size + 1, 0, none⟩)]) rfl enters_ops
    (ops_seq (20 - 1) (by omega) (w.heap.size + 1) B w.heap.size (.slice x0 n c0) l (by have := HL.out; omega) W0) (Below.refl _ _) hW.size (fun k h => h.elim) (fun _ => rfl)
    (MKI B w.heap.size (.slice x0 n c0) l w) (fun _ _ _ => False) (by rw [hsz]; exact MKI.stay HL.out.2 (Nat.le_refl _)) (fun _ _ _ _ _ h _ _ => h.elim) (fun pre X h => h.2.1) hI0
    (fun x a' _ => a' = { tmps := #[.slice x0 n c0, undef, .slice none 0 0, .pointer (some ⟨w.heap.size, 0, none⟩), .int .i64 (pos l x : Nat), .int .u8 (opB l x : Nat), .slice x0 n c0, .func (.func 64) #[] #[.pointer (some ⟨w.heap.size + 1, 0, none⟩)], .int .i64 (pos l x : Nat), .int .u8 (opB l x : Nat), undef, undef, undef, undef, undef, undef, undef], defers := [] })
    (fun x a' _ _ _ _ hs _ _ => hs)
    ?assign ?body ?done ?stop
  case assign =>
    rintro l2 pre x X K _ _ hi hK
    gi_wp2_with fail
    exact hK _ _ (KeptM.refl _ _) (Below.refl _ _) hi rfl
  case stop =>
    rintro D c pre X hD _ h hK
    exact h.elim
  case done =>
    rintro D xs X hD rfl hi hK
    obtain ⟨⟨y, c, h1, h2⟩, _, h5⟩ := hi
    rw [List.length_range] at h1 h2
    have hDs : D = w.heap.size + 2 := by have := HSZ.out; omega
    have hgD : X.grownBy (X.putObj D (.deferred none)) (some D) := grownBy_putObj' X D _
    have hYo : OwI (X.putObj D (.deferred none)) (w.heap.size + 4) (.slice y (mkK l (opsN l)).length c) (mkK l (opsN l)) := World.ownsRow.kept h2 hgD (own_fresh h2 (by omega))
    have hBD : Below w.heap.size w (X.putObj D (.deferred none)) := h5.trans (below_put X _ (by omega))
    have cL := cell_of_row X _ 0 _ _ _ h1
    have HE := Lib.hid (And.intro (hYo.mono (show w.heap.size ≤ w.heap.size + 4 by omega)) hBD)
    clear hYo hBD h1 h2 h5 hgD
    go_wp2_with fail
    refine ⟨by simp, .inl ⟨_, _, rfl, run_takeDeferred hK, ?_⟩⟩
    exact ⟨_, by simp [results, Tryd.results16, go_sem]; rfl, y, c, rfl, HE.out⟩
  case body =>
    rintro l2 pre x a' X hl2 ⟨hpre, hx⟩ hlo hi rfl
    have hplen : pre.length = x := by rw [hpre, List.length_range]
    have hX4 : w.heap.size + 4 ≤ X.heap.size := by obtain ⟨r, hr⟩ := hlo; have := (Array.getElem?_eq_some_iff.1 hr).1; have := HSZ.out; omega
    by_cases hq : opB l x = 91
    · have hqI : ((opB l x : Int) == 91) = true := by rw [hq]; rfl
      obtain ⟨⟨y, c, h1, h2⟩, ⟨h3, h4⟩, h5⟩ := hi
      rw [hplen] at h1 h2
      have hmk := mkK_hit l x hq
      have hml := mkK_len l x
      have hxn : x < 1000 := by have := (opsN_spec l).2.1; have := HL.out; omega
      obtain ⟨y2, c2, w2, hrun, hO2, hG2⟩ := app_int X (w.heap.size + 4) (.slice y (mkK l x).length c) (mkK l x) (pos l x) 33 h2 hX4 (by omega)
      rw [← hmk] at hrun hO2
      have hG0 := grown_alloc X (.cells #[.int .i64 (pos l x : Nat)] 3)
      have hlt1 := h1.lt
      have hob := own_fresh h2 (show w.heap.size < w.heap.size + 4 by omega)
      have h1w : Blk w2 w.heap.size 33 #[.slice y (mkK l x).length c] := (h1.alloc (.cells #[.int .i64 (pos l x : Nat)] 3)).kept hG2 (fun e => by rcases hob with h | h; rw [h] at e; cases e; exact h e.symm)
      have hE := Lib.hid (marks_step (n := (mkK l (x + 1)).length) HL.out.2 (Nat.le_refl _) h1w h2 ⟨h3, h4⟩ h5 hX4 hO2 hG2 (show mkK l (x + 1) = mkK l (x + 1) from rfl))
      have c1 := cell_of_row _ _ 0 _ _ _ h1
      have c2' := cell_of_row _ _ 0 _ _ _ h1w
      have f2 := frozen_of_row _ _ 0 _ _ h1w
      have HP := Lib.hid (And.intro hplen hl2)
      clear h1 h2 h3 h4 h5 hO2 hG2 hG0 h1w hob hmk hml hq hpre hlo hx hxn hlt1 hplen hl2 b0 b1 hW hVW hI0
      generalize (mkK l x).length = m0 at *
      generalize hm1 : (mkK l (x + 1)).length = m1 at *
      gi_wp2_with (first | (refine wpIn_append_run (.tmp 12) (.tmp 14) 33 rfl (v := .slice y m0 c) (u := .slice (some ⟨X.heap.size, 0, none⟩) 1 1) rfl rfl hrun ?_) | fail)
      obtain ⟨⟨e1, e2⟩, e3, e4, e5, e6⟩ := hE.out
      refine ⟨by rw [HSZ.out]; exact e6, e5, ⟨y2, c2, ?_, ?_⟩, e3, e4⟩
      · rw [List.length_append, HP.out.1]
        show Blk _ _ _ #[.slice y2 (mkK l (x + 1)).length c2]
        rw [hm1]
        exact e1
      · rw [List.length_append, HP.out.1]
        show OwI _ _ (.slice y2 (mkK l (x + 1)).length c2) (mkK l (x + 1))
        rw [hm1]
        exact e2
    · have hqI : ((opB l x : Int) == 91) = false := by rw [beq_eq_false_iff_ne]; omega
      have hmk := mkK_miss l x hq
      have HI := Lib.hid hi
      clear hi b0 b1 hW hVW hI0 hlo
      gi_wp2_with fail
      obtain ⟨⟨y, c, h1, h2⟩, h3, h5⟩ := HI.out
      rw [hplen] at h1 h2
      exact ⟨KeptM.refl _ _, Below.refl _ _, ⟨y, c, by rw [List.length_append, hplen]; show Blk X _ _ #[.slice y (mkK l (x + 1)).length c]; rw [hmk]; exact h1, by rw [List.length_append, hplen]; show OwI X _ (.slice y (mkK l (x + 1)).length c) (mkK l (x + 1)); rw [hmk]; exact h2⟩, h3, h5⟩
end Go.Proofs.YtcdmaapjcckbmaaDoor
