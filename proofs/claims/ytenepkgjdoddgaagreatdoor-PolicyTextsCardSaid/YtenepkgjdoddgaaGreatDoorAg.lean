/- policy's laws: read, where nothing gives up. -/
import Derived.Test.YtenepkgjdoddgaaGreatDoorPq
namespace Go.Proofs.YtenepkgjdoddgaaGreatDoor
open Go.RowKit Go.Shelf
set_option linter.unusedSimpArgs false
attribute [local go_sem] Oper.semAt_some
/-- What stands between two lines: the reader, its rows, what else read has made. -/
def RI (w : World) (m5 D : Nat) (sts : Nat → St) (pre : List (ByteArray × Nat)) (X : World) : Prop :=
  ∃ v num vc vr, Rd X (w.heap.size + 1 + 1) v num (sts pre.length).df vc vr ∧ OwC X w.heap.size vc (sts pre.length).ls ∧ OwR X w.heap.size vr (sts pre.length).rs ∧ ((sts pre.length).rs = [] → vr = .slice none 0 0) ∧
    ((∀ g, vc.ownBlock = some g → D + 9 ≤ g) ∧ (∀ g, vr.ownBlock = some g → D + 9 ≤ g) ∧ (∀ g, vc.ownBlock = some g → vr.ownBlock ≠ some g)) ∧ WM X (w.heap.size + 3) ∧ Blk X m5 142 #[.map (some (w.heap.size + 3))] ∧
    Blk X w.heap.size 27 #[.int .u64 0, .slice none 0 0, .slice none 0 0] ∧ Blk X (w.heap.size + 1) 36 #[.int .i64 0] ∧ Below w.heap.size w X
theorem step_inv {i : Nat} {x : ByteArray} {df : Nat} {ls : List (List Nat × Nat)} {rs : List (List Nat × Nat × Nat)} {st2 : St} (h : StepOk i x ⟨df, ls, rs⟩ st2) :
    (∃ u, i = 0 ∧ pcs 32 x = [sDef, u] ∧ u.size ≤ 400 ∧ labE u.data.toList = 0 ∧ st2 = ⟨labV u.data.toList, ls, rs⟩) ∨
    (∃ T u, 0 < i ∧ rs = [] ∧ pcs 32 x = [sClr, ⟨(48 :: 120 :: T).toArray⟩, u] ∧ T.length = 40 ∧ (∀ y ∈ T, dv y < 16) ∧ u.size ≤ 400 ∧ labE u.data.toList = 0 ∧ st2 = ⟨df, ls ++ [(lowA (valL T), labV u.data.toList)], []⟩) ∨
    (∃ T ue u e0, 0 < i ∧ pcs 32 x = [sRel, ⟨(48 :: 120 :: T).toArray⟩, ue, u] ∧ T.length = 40 ∧ (∀ y ∈ T, dv y < 16) ∧ ue.size ≤ 400 ∧ e0 < 4294967296 ∧ Lib.parseUintB 32 ue.data.toList = .ok e0 ∧
      (∀ X, Calls Tryz.prog 51 #[.int .u32 (e0 : Nat)] X fun e w' => e = .returned (.string ue) ∧ Below X.heap.size X w') ∧ u.size ≤ 400 ∧ labE u.data.toList = 0 ∧ st2 = ⟨df, ls, rs ++ [(lowA (valL T), e0, labV u.data.toList)]⟩) := by
  cases h with
  | dflt x u df ls rs h1 h2 h3 => exact .inl ⟨u, rfl, h1, h2, h3, rfl⟩
  | clear i x T u df ls h1 h2 h3 h4 h5 h6 => exact .inr (.inl ⟨T, u, h1, rfl, h2, h3, h4, h5, h6, rfl⟩)
  | release i x T ue u e0 df ls rs h1 h2 h3 h4 h5 h6 h7 h8 h9 h10 => exact .inr (.inr ⟨T, ue, u, e0, h1, h2, h3, h4, h5, h6, h7, h8, h9, h10, rfl⟩)
theorem own_keptM {X Y : World} {base : Nat} {e : TypeId} {size : Nat} {v : Value} {n : Nat} {xs : List Value} {M : Nat → Prop} (h : X.ownsRow base e size v n xs) (k : KeptM M X Y) (hM : ∀ g, v.ownBlock = some g → M g) : Y.ownsRow base e size v n xs := by
  refine ⟨h.1, ?_⟩
  rcases h.2 with hn | ⟨g, cap, cur, rfl, hb, hgg, rest⟩
  · exact .inl hn
  · exact .inr ⟨g, cap, cur, rfl, hb, (k.2 g (hM g rfl) (Array.getElem?_eq_some_iff.1 hgg).1).trans hgg, rest⟩
theorem keptM_grown {X Y : World} {row : Option Nat} {M : Nat → Prop} (h : X.grownBy Y row) (hr : ∀ r, row = some r → ¬ M r) : KeptM M X Y := ⟨h.size, fun k hk hX => h.block k hX (fun e => hr k e.symm hk)⟩
theorem RI.stay {w : World} {m5 D : Nat} {sts : Nat → St} (hD : w.heap.size + 4 ≤ D) (hm : m5 < D) : StayM (fun k => D ≤ k ∧ k < D + 9) (RI w m5 D sts) := by
  rintro pre X Y row ⟨v, num, vc, vr, h1, h2, h3, h4, ⟨h5, h6, h7⟩, h8, h9, h10, h11, h12⟩ hg hr
  have hk : KeptM (fun k => ¬ (D ≤ k ∧ k < D + 9)) X Y := keptM_grown hg (fun r e h => h (hr r e))
  have hne : ∀ b, b < D → row ≠ some b := fun b hb e => by have := hr b e; omega
  refine ⟨v, num, vc, vr, Rd.kept h1 hg (hne _ (by omega)), ⟨own_keptM h2.1 hk (fun g e => by have := h5 g e; omega), h2.2⟩, ⟨own_keptM h3.1 hk (fun g e => by have := h6 g e; omega), h3.2⟩, h4, ⟨h5, h6, h7⟩, h8.kept hg (hne _ (by omega)), h9.kept hg (fun e => hne _ hm e.symm), h10.kept hg (fun e => hne _ (by omega) e.symm), h11.kept hg (fun e => hne _ (by omega) e.symm), h12.grown hg h12.size (fun r e => by have := hr r e; omega)⟩

theorem any_gn {F : Fence} {n : Nat} {P : Program} {md : Region.Mode} {ops : Array Oper} {Q : Exit → Act → World → Prop} {fuel : Nat} {listed : Array Bool} {a : Act} {w : World} (f2 : Nat) (l2 : Array Bool) (hf : fuel = f2) (hl : listed = l2)
    (h : ∀ o2 Q2, Kept1 (ops = o2) → Kept1 (Q = Q2) → wpAnyIn F n P md o2 Q2 f2 l2 a w) : wpAnyIn F n P md ops Q fuel listed a w := by
  subst hf hl
  exact h ops Q ⟨rfl⟩ ⟨rfl⟩
/-- What a line leaves behind. -/
theorem line_end {w X Z : World} {m5 D i : Nat} {sts : Nat → St} {pre : List (ByteArray × Nat)} {x : ByteArray × Nat} {st : St} {v2 vc vr : Value} {num : Int} (hD : w.heap.size + 4 ≤ D) (hm : m5 < D) (hm4 : w.heap.size + 3 < m5) (hpl : (pre ++ [x]).length = i + 1) (hst : sts (i + 1) = st)
    (hR : Rd Z (w.heap.size + 1 + 1) v2 num st.df vc vr) (hC : OwC Z w.heap.size vc st.ls) (hRr : OwR Z w.heap.size vr st.rs) (hn : st.rs = [] → vr = .slice none 0 0)
    (ho : (∀ g, vc.ownBlock = some g → D + 9 ≤ g) ∧ (∀ g, vr.ownBlock = some g → D + 9 ≤ g) ∧ (∀ g, vc.ownBlock = some g → vr.ownBlock ≠ some g))
    (hM : WM X (w.heap.size + 3)) (hm5 : Blk X m5 142 #[.map (some (w.heap.size + 3))]) (hP : Blk X w.heap.size 27 #[.int .u64 0, .slice none 0 0, .slice none 0 0]) (hE : Blk X (w.heap.size + 1) 36 #[.int .i64 0]) (hB : Below w.heap.size w X)
    (kM : KeptM (fun k => k < D + 9 ∧ k ≠ w.heap.size + 1 + 1) X Z) (kB : Below w.heap.size X Z) :
    KeptM (fun k => D ≤ k ∧ k < D + 9) X Z ∧ Below w.heap.size X Z ∧ RI w m5 D sts (pre ++ [x]) Z := by
  subst hst
  refine ⟨kM.mono (fun k (h : D ≤ k ∧ k < D + 9) => ⟨h.2, by omega⟩), kB, v2, num, vc, vr, ?_, ?_, ?_, ?_, ho, ?_, ?_, ?_, ?_, hB.trans kB⟩
  · rw [hpl]; exact hR
  · rw [hpl]; exact hC
  · rw [hpl]; exact hRr
  · rw [hpl]; exact hn
  · exact (kM.2 _ ⟨by omega, by omega⟩ (Array.getElem?_eq_some_iff.1 hM).1).trans hM
  · exact (kM.2 _ ⟨by omega, by omega⟩ hm5.lt).trans hm5
  · exact (kM.2 _ ⟨by omega, by omega⟩ hP.lt).trans hP
  · exact (kM.2 _ ⟨by omega, by omega⟩ hE.lt).trans hE
theorem line_endD {w X Z : World} {m5 D i : Nat} {sts : Nat → St} {pre : List (ByteArray × Nat)} {x : ByteArray × Nat} {df : Nat} {ls : List (List Nat × Nat)} {rs : List (List Nat × Nat × Nat)} {v2 vc vr : Value} {num : Int} (hD : w.heap.size + 4 ≤ D) (hm : m5 < D) (hm4 : w.heap.size + 3 < m5) (hpl : (pre ++ [x]).length = i + 1) (hst : sts (i + 1) = ⟨df, ls, rs⟩)
    (hR : Rd Z (w.heap.size + 1 + 1) v2 num (df : Nat) vc vr) (hC : OwC Z w.heap.size vc ls) (hRr : OwR Z w.heap.size vr rs) (hn : rs = [] → vr = .slice none 0 0)
    (ho : (∀ g, vc.ownBlock = some g → D + 9 ≤ g) ∧ (∀ g, vr.ownBlock = some g → D + 9 ≤ g) ∧ (∀ g, vc.ownBlock = some g → vr.ownBlock ≠ some g))
    (hM : WM X (w.heap.size + 3)) (hm5 : Blk X m5 142 #[.map (some (w.heap.size + 3))]) (hP : Blk X w.heap.size 27 #[.int .u64 0, .slice none 0 0, .slice none 0 0]) (hE : Blk X (w.heap.size + 1) 36 #[.int .i64 0]) (hB : Below w.heap.size w X)
    (kM : KeptM (fun k => k < D + 9 ∧ k ≠ w.heap.size + 1 + 1) X Z) (kB : Below w.heap.size X Z) :
    KeptM (fun k => D ≤ k ∧ k < D + 9) X Z ∧ Below w.heap.size X Z ∧ RI w m5 D sts (pre ++ [x]) Z :=
  line_end (st := ⟨df, ls, rs⟩) hD hm hm4 hpl hst hR hC hRr hn ho hM hm5 hP hE hB kM kB

set_option maxRecDepth 100000 in
set_option maxHeartbeats 8000000 in
theorem read_ok (s : ByteArray) (lines : ByteArray) (sts : Nat → St) (w : World) (hls : lines.size ≤ 100000) (hcut : ∀ X, Calls Tryz.prog 91 #[.string s, .string ⟨#[10]⟩] X fun e w' => e = .returned (.tuple #[.string lines, .bool true]) ∧ w' = X)
    (h0 : sts 0 = ⟨0, [], []⟩) (hS : ∀ i x, (pcs 10 lines)[i]? = some x → x.size ≤ 100000 ∧ StepOk i x (sts i) (sts (i + 1)) ∧ (sts i).ls.length ≤ 100000 ∧ (sts i).rs.length ≤ 100000) (hT : TZ w) (hTS : ∀ w', Below w.heap.size w w' → TZ w') :
    Calls Tryz.prog 57 #[.string s] w fun e w' => ∃ vc vr, e = .returned (.tuple #[.agg #[.int .u64 ((sts (pcs 10 lines).length).df : Nat), vc, vr], .int .i64 0]) ∧ OwC w' w.heap.size vc (sts (pcs 10 lines).length).ls ∧ OwR w' w.heap.size vr (sts (pcs 10 lines).length).rs ∧ Below w.heap.size w w' := by
  have hmf : ∀ (fn : Fn) (first cap : Array Value) (w : World), (Instr.makeFunc fn first cap).run Tryz.prog w = .ok (.func fn first cap) w := fun _ _ _ _ => rfl
  refine (callsIn_wide (n := 20)).1 ?_
  refine callsIn_of_wp_marks Tryz.func57 rfl trivial ?_ rfl
  simp only [Tryz.ntmps57, List.size_toArray, List.length_cons, List.length_nil, Nat.reduceAdd, Nat.reduceSub, Array.replicate_succ, Array.replicate_zero, List.push_toArray, List.append_toArray, List.nil_append, List.cons_append]
  have HC := Lib.hid hcut
  have HS := Lib.hid hS
  have HT := Lib.hid (And.intro hT hTS)
  clear hcut hS hT hTS
  gi_wp2_with fail
  have hW0 := balloc (balloc (balloc (Below.refl w.heap.size w) (.cells #[.int .u64 0, .slice none 0 0, .slice none 0 0] 27)) (.cells #[.int .i64 0] 36)) (.cells #[.slice none 0 0, .int .i64 0, .int .u64 0, .slice none 0 0, .slice none 0 0] 141)
  have kP := ((Blk.new w 27 #[.int .u64 0, .slice none 0 0, .slice none 0 0]).alloc (.cells #[.int .i64 0] 36)).alloc (.cells #[.slice none 0 0, .int .i64 0, .int .u64 0, .slice none 0 0, .slice none 0 0] 141)
  have kE := (Blk.newS w (.cells #[.int .u64 0, .slice none 0 0, .slice none 0 0] 27) 36 #[.int .i64 0]).alloc (.cells #[.slice none 0 0, .int .i64 0, .int .u64 0, .slice none 0 0, .slice none 0 0] 141)
  have kR := Blk.newS (w.alloc (.cells #[.int .u64 0, .slice none 0 0, .slice none 0 0] 27)) (.cells #[.int .i64 0] 36) 141 #[.slice none 0 0, .int .i64 0, .int .u64 0, .slice none 0 0, .slice none 0 0]
  rw [World.size_alloc] at kR
  have hsz : (((w.alloc (.cells #[.int .u64 0, .slice none 0 0, .slice none 0 0] 27)).alloc (.cells #[.int .i64 0] 36)).alloc (.cells #[.slice none 0 0, .int .i64 0, .int .u64 0, .slice none 0 0, .slice none 0 0] 141)).heap.size = w.heap.size + 3 := by simp
  obtain ⟨X0, hX0⟩ : ∃ X0, ((w.alloc (.cells #[.int .u64 0, .slice none 0 0, .slice none 0 0] 27)).alloc (.cells #[.int .i64 0] 36)).alloc (.cells #[.slice none 0 0, .int .i64 0, .int .u64 0, .slice none 0 0, .slice none 0 0] 141) = X0 := ⟨_, rfl⟩
  rw [hX0] at hW0 kP kE kR hsz ⊢
  clear hX0
  refine ⟨trivial, (callsIn_wide.2 (ways_any X0)).mono ?_⟩
  rintro e X1 ⟨rfl, hM1, h1⟩
  have kP1 := kP.keep h1
  have kE1 := kE.keep h1
  have kR1 := kR.keep h1
  have hW1 := hW0.trans (h1.mono (by omega))
  have hm1 := (Array.getElem?_eq_some_iff.1 hM1).1
  have hs1 : w.heap.size + 3 < X1.heap.size := by omega
  rw [hsz] at hM1 ⊢
  clear kP kE kR hW0 h1 hsz hm1
  have HX1 := Lib.hid (And.intro hM1 (And.intro kP1 (And.intro kE1 (And.intro kR1 (And.intro hW1 hs1)))))
  clear hM1 kP1 kE1 kR1 hW1 hs1
  rename_i K hK
  refine hK _ _ ?_
  clear hK K
  gi_wp2_with fail
  refine ⟨trivial, (callsIn_wide.2 (HC.out _)).mono ?_⟩
  rintro e X2 ⟨rfl, rfl⟩
  rename_i K hK
  refine hK _ _ ?_
  clear hK K
  gi_wp2_with fail
  refine ⟨trivial, (callsIn_wide.2 (need_b _ rfl _)).mono ?_⟩
  rintro e X2 ⟨rfl, rfl⟩
  rename_i K hK
  refine hK _ _ ?_
  clear hK K
  gi_wp2_with fail
  refine ⟨trivial, (callsIn_wide.2 (pieces_fn lines _)).mono ?_⟩
  rintro e X2 ⟨rfl, rfl⟩
  rename_i K hK
  refine hK _ _ ?_
  clear hK K
  gi_wp2_with fail
  have hal := balloc (balloc (Below.refl X1.heap.size X1) (.cells #[.map (some (w.heap.size + 3))] 142)) (.cells #[.string lines] 9)
  have k5 := (Blk.new X1 142 #[.map (some (w.heap.size + 3))]).alloc (.cells #[.string lines] 9)
  have kS := Blk.newS X1 (.cells #[.map (some (w.heap.size + 3))] 142) 9 #[.string lines]
  have hszD : ((X1.alloc (.cells #[.map (some (w.heap.size + 3))] 142)).alloc (.cells #[.string lines] 9)).heap.size = X1.heap.size + 2 := by simp
  rw [World.size_alloc]
  obtain ⟨W0, hW0⟩ : ∃ W0, (X1.alloc (.cells #[.map (some (w.heap.size + 3))] 142)).alloc (.cells #[.string lines] 9) = W0 := ⟨_, rfl⟩
  rw [hW0] at hal k5 kS hszD ⊢
  clear hW0
  obtain ⟨hM1, kP1, kE1, kR1, hW1, hs1⟩ := HX1.out
  have hM2 := WM.kept hM1 (grown_new hal) (by simp)
  have kP2 := kP1.keep hal
  have kE2 := kE1.keep hal
  have kR2 := kR1.keep hal
  have hW2 := hW1.trans (hal.mono (by omega))
  have hI0 : RI w X1.heap.size W0.heap.size sts [] W0 := by
    refine ⟨.slice none 0 0, 0, .slice none 0 0, .slice none 0 0, ?_, ⟨?_, ?_⟩, ⟨?_, ?_⟩, fun _ => rfl, ⟨fun g e => (by cases e), fun g e => (by cases e), fun g e => (by cases e)⟩, hM2, k5, kP2, kE2, hW2⟩
    · rw [List.length_nil, h0]; exact kR2
    · rw [List.length_nil, h0]; exact World.ownsRow_nil _ _ _ _
    · rw [List.length_nil, h0]; intro c hc; cases hc
    · rw [List.length_nil, h0]; exact World.ownsRow_nil _ _ _ _
    · rw [List.length_nil, h0]; intro c hc; cases hc
  clear hM1 kP1 kE1 kR1 hW1 hM2 kP2 kE2 kR2 hW2 hal k5 HX1
  have hstay := RI.stay (w := w) (sts := sts) (show w.heap.size + 4 ≤ W0.heap.size by omega) (show X1.heap.size < W0.heap.size by omega)
  have hnW : w.heap.size ≤ W0.heap.size := by omega
  have hll : lines.size < 4294967281 := Nat.lt_of_le_of_lt hls (by decide)
  have hHq : ∀ k, Hq (fun _ => False) 7 (W0.heap.size + 2) k ∨ k = W0.heap.size ∨ k = W0.heap.size + 1 ↔ W0.heap.size ≤ k ∧ k < W0.heap.size + 9 := fun k => by simp only [Hq, false_or]; omega
  refine wpIn_rangeQ (n := 20) (by omega) (gf := 87) (lb := #[.pointer (some ⟨X1.heap.size + 1, 0, none⟩)]) rfl (enters_of Tryz.func87 (by kernel_rfl) rfl)
    (pieces_seqQ 19 (by omega) (X1.heap.size + 1) w.heap.size lines W0 hll hnW kS) (Below.refl _ _) hnW (fun k h => h.elim) (fun _ => rfl)
    (RI w X1.heap.size W0.heap.size sts) (fun _ _ _ => False) (hstay.mono (fun k h => (hHq k).1 h)) (fun c pre X Y row h _ _ => h.elim) hI0
    (fun x a' X => a' = { tmps := #[.string s, undef, .pointer (some ⟨w.heap.size, 0, none⟩), .pointer (some ⟨w.heap.size + 1, 0, none⟩), .pointer (some ⟨w.heap.size + 1 + 1, 0, none⟩), .pointer (some ⟨X1.heap.size, 0, none⟩), .string lines, .bool true, .int .i64 (x.2 : Nat), .string x.1, undef, .func (.func 89) #[] #[.pointer (some ⟨w.heap.size + 1, 0, none⟩)], .map (some (w.heap.size + 3)), .tuple #[.string lines, .bool true], .string s, .tuple #[.string lines, .bool true], .string lines, .bool true, .bool true, .tuple #[], .string lines, .func (.func 87) #[] #[.pointer (some ⟨X1.heap.size + 1, 0, none⟩)], .int .i64 (x.2 : Nat), .string x.1, undef, undef, undef, undef, undef, undef, undef, undef, undef, undef, undef, undef, undef, undef, undef, undef, undef, undef, undef, undef, undef], defers := [] })
    (fun x a' _ X Y row hs hg hr => hs)
    ?assign ?body ?done ?stop
  case assign =>
    rintro l2 pre x X K hgd hXs hi hK
    gi_wp2_with fail
    exact hK _ _ (KeptM.refl _ _) (Below.refl _ _) hi rfl
  case stop =>
    rintro D c pre X hD _ hx hK
    exact hx.elim
  case done =>
    rintro D xs X hD hx hI hK
    subst hx
    obtain ⟨v, num, vc, vr, hR, hC, hRr, hvr, ⟨hoc, hor, hdis⟩, hM, hm5, hP, hE, hB⟩ := hI
    rw [List.length_zipIdx] at hR hC hRr hvr
    obtain ⟨stF, hstF⟩ : ∃ stF, sts (pcs 10 lines).length = stF := ⟨_, rfl⟩
    rw [hstF] at hR hC hRr hvr
    have HSTF := Lib.hid hstF
    have d2 : X.cell? ⟨w.heap.size + 1 + 1, 2, none⟩ = some (.int .u64 (stF.df : Nat)) := cell_of_row X _ 2 _ _ _ hR
    have d3 : X.cell? ⟨w.heap.size + 1 + 1, 3, none⟩ = some vc := cell_of_row X _ 3 _ _ _ hR
    have d4 : X.cell? ⟨w.heap.size + 1 + 1, 4, none⟩ = some vr := cell_of_row X _ 4 _ _ _ hR
    have p0 : X.cell? ⟨w.heap.size, 0, none⟩ = some (.int .u64 0) := cell_of_row X _ 0 _ _ _ hP
    have p1 : X.cell? ⟨w.heap.size, 1, none⟩ = some (.slice none 0 0) := cell_of_row X _ 1 _ _ _ hP
    have p2 : X.cell? ⟨w.heap.size, 2, none⟩ = some (.slice none 0 0) := cell_of_row X _ 2 _ _ _ hP
    have q0 : X.cell? ⟨w.heap.size + 1, 0, none⟩ = some (.int .i64 0) := cell_of_row X _ 0 _ _ _ hE
    have fp0 := frozen_of_row X _ 0 _ _ hP
    have fp1 := frozen_of_row X _ 1 _ _ hP
    have fp2 := frozen_of_row X _ 2 _ _ hP
    have fq0 := frozen_of_row X _ 0 _ _ hE
    obtain ⟨xc, nc, cc, rfl⟩ : ∃ x n c, vc = .slice x n c := by
      rcases hC.1.2 with ⟨e, _⟩ | ⟨g, cap, cur, e, _⟩
      · exact ⟨_, _, _, e⟩
      · exact ⟨_, _, _, e⟩
    obtain ⟨xr, nr, cr, rfl⟩ : ∃ x n c, vr = .slice x n c := by
      rcases hRr.1.2 with ⟨e, _⟩ | ⟨g, cap, cur, e, _⟩
      · exact ⟨_, _, _, e⟩
      · exact ⟨_, _, _, e⟩
    have HB := Lib.hid (show _ ∧ _ ∧ _ ∧ _ ∧ _ ∧ _ ∧ _ ∧ _ from ⟨hC, hRr, hoc, hor, hP, hE, hB, hK⟩)
    clear hR hC hRr hvr hoc hor hdis hM hm5 hP hE hB hK hI0 hstF hHq hstay
    dsimp only
    gi_wp2_with fail
    clear d2 d3 d4 p0 p1 p2 q0 fp0 fp1 fp2 fq0
    obtain ⟨hC, hRr, hoc, hor, hP, hE, hB, hK⟩ := HB.out
    have g1 := grown_set' (grown_refl X w.heap.size) 0 (.int .u64 (stF.df : Nat))
    have b1 := heap_setCell_same X w.heap.size 0 _ _ (.int .u64 (stF.df : Nat)) hP
    have g2 := grown_set' g1 1 (.slice xc nc cc)
    have b2 := heap_setCell_same _ w.heap.size 1 _ _ (.slice xc nc cc) b1
    have g3 := grown_set' g2 2 (.slice xr nr cr)
    have b3 := heap_setCell_same _ w.heap.size 2 _ _ (.slice xr nr cr) b2
    have e3 := hE.kept g3 (fun e => by have := Option.some.inj e; omega)
    obtain ⟨X3, hX3⟩ : ∃ X3, ((X.setCell ⟨w.heap.size, 0, none⟩ (.int .u64 (stF.df : Nat))).setCell ⟨w.heap.size, 1, none⟩ (.slice xc nc cc)).setCell ⟨w.heap.size, 2, none⟩ (.slice xr nr cr) = X3 := ⟨_, rfl⟩
    rw [hX3] at g3 b3 e3 ⊢
    have g4 := grown_set' (grown_refl X3 (w.heap.size + 1)) 0 (.int .i64 0)
    have e4 := heap_setCell_same X3 (w.heap.size + 1) 0 _ _ (.int .i64 0) e3
    have b4 := Blk.kept (show Blk X3 w.heap.size 27 #[.int .u64 (stF.df : Nat), .slice xc nc cc, .slice xr nr cr] from b3) g4 (fun e => by have := Option.some.inj e; omega)
    obtain ⟨X4, hX4⟩ : ∃ X4, X3.setCell ⟨w.heap.size + 1, 0, none⟩ (.int .i64 0) = X4 := ⟨_, rfl⟩
    rw [hX4] at g4 e4 b4 ⊢
    have hkX : KeptM (fun k => w.heap.size + 2 ≤ k) X X4 := (keptM_grown g3 (fun r e h => by cases e; omega)).trans (keptM_grown g4 (fun r e h => by cases e; omega))
    have hK4 : X4.heap[D]? = some (.deferred (some [])) := (hkX.2 D (by omega) (Array.getElem?_eq_some_iff.1 hK).1).trans hK
    have hC4 : OwC X4 w.heap.size (.slice xc nc cc) stF.ls := ⟨own_keptM hC.1 hkX (fun g e => by have := hoc g e; omega), hC.2⟩
    have hR4 : OwR X4 w.heap.size (.slice xr nr cr) stF.rs := ⟨own_keptM hRr.1 hkX (fun g e => by have := hor g e; omega), hRr.2⟩
    have hB4 : Below w.heap.size w X4 := (hB.grown g3 hB.size (fun k e => by cases e; omega)).grown g4 (by have := hB.size; have := g3.size; omega) (fun k e => by cases e; omega)
    have hput : X4.grownBy (X4.putObj D (.deferred none)) (some D) := grownBy_putObj' X4 D _
    have b5 : Blk (X4.putObj D (.deferred none)) w.heap.size 27 #[.int .u64 (stF.df : Nat), .slice xc nc cc, .slice xr nr cr] := Blk.kept b4 hput (fun e => by have := Option.some.inj e; omega)
    have e5 : Blk (X4.putObj D (.deferred none)) (w.heap.size + 1) 36 #[.int .i64 0] := Blk.kept e4 hput (fun e => by have := Option.some.inj e; omega)
    have k5 : KeptM (fun k => k ≠ D) X4 (X4.putObj D (.deferred none)) := keptM_grown hput (fun r e h => by cases e; exact h rfl)
    have hC5 : OwC (X4.putObj D (.deferred none)) w.heap.size (.slice xc nc cc) stF.ls := ⟨own_keptM hC4.1 k5 (fun g e => by have := hoc g e; omega), hC4.2⟩
    have hR5 : OwR (X4.putObj D (.deferred none)) w.heap.size (.slice xr nr cr) stF.rs := ⟨own_keptM hR4.1 k5 (fun g e => by have := hor g e; omega), hR4.2⟩
    have hB5 : Below w.heap.size w (X4.putObj D (.deferred none)) := hB4.trans (below_put _ _ (by omega))
    refine ⟨by simp, .inl ⟨D, _, rfl, run_takeDeferred hK4, ?_⟩⟩
    have m0 : (X4.putObj D (.deferred none)).cell? ⟨w.heap.size, 0, none⟩ = some (.int .u64 (stF.df : Nat)) := cell_of_row _ _ 0 _ _ _ b5
    have m1 : (X4.putObj D (.deferred none)).cell? ⟨w.heap.size, 1, none⟩ = some (.slice xc nc cc) := cell_of_row _ _ 1 _ _ _ b5
    have m2 : (X4.putObj D (.deferred none)).cell? ⟨w.heap.size, 2, none⟩ = some (.slice xr nr cr) := cell_of_row _ _ 2 _ _ _ b5
    have m3 : (X4.putObj D (.deferred none)).cell? ⟨w.heap.size + 1, 0, none⟩ = some (.int .i64 0) := cell_of_row _ _ 0 _ _ _ e5
    have HZ := Lib.hid (show _ ∧ _ ∧ _ from ⟨hC5, hR5, hB5⟩)
    clear g1 b1 g2 b2 g3 b3 e3 hX3 g4 e4 b4 hX4 hkX hK4 hC4 hR4 hB4 hput b5 e5 k5 hC5 hR5 hB5 hC hRr hoc hor hP hE hB hK
    obtain ⟨Z, hZ⟩ : ∃ Z, X4.putObj D (.deferred none) = Z := ⟨_, rfl⟩
    rw [hZ] at m0 m1 m2 m3 HZ ⊢
    clear hZ
    refine ⟨by simp, .inr ⟨fun _ => by omega, .func 89, #[.pointer (some ⟨w.heap.size + 1, 0, none⟩)], 89, #[.pointer (some ⟨w.heap.size + 1, 0, none⟩)], rfl, by simp [go_sem], fun _ _ => trivial, ?_⟩⟩
    obtain ⟨hfn, hidle⟩ := idle_in (20 - 1) ⟨w.heap.size + 1, 0, none⟩ Z
    refine ⟨hfn, fun c cs hu hroom => ?_⟩
    obtain ⟨e, u', w', fr, ⟨rfl, rfl, rfl⟩, hrest⟩ := hidle c cs hu hroom
    refine ⟨_, _, _, fr, ?_, hrest⟩
    refine ⟨.tuple #[.agg #[.int .u64 (stF.df : Nat), .slice xc nc cc, .slice xr nr cr], .int .i64 0], ?_, .slice xc nc cc, .slice xr nr cr, ?_, ?_⟩
    · simp [results, Tryz.results57, go_sem, m0, m1, m2, m3]
    · rw [HSTF.out]
    · rw [HSTF.out]; exact HZ.out
  case body =>
    rintro l2 pre x a' X hl2 hgd hXs hI rfl
    obtain ⟨v, num, vc, vr, hR, hC, hRr, hvr, ⟨hoc, hor, hdis⟩, hM, hm5, hP, hE, hB⟩ := hI
    obtain ⟨kk, hpre, hx⟩ := hgd
    obtain ⟨x, i⟩ := x
    have hxi : i = kk ∧ (pcs 10 lines)[kk]? = some x ∧ pre.length = kk := by
      rw [List.getElem?_zipIdx] at hx
      obtain ⟨y, hy, hxy⟩ := Option.map_eq_some_iff.1 hx
      simp only [Prod.mk.injEq, Nat.zero_add] at hxy
      obtain ⟨rfl, rfl⟩ := hxy
      have hlt := (List.getElem?_eq_some_iff.1 hy).1
      exact ⟨rfl, hy, by rw [hpre, List.length_take, List.length_zipIdx]; omega⟩
    obtain ⟨rfl, hxp, hpl⟩ := hxi
    obtain ⟨hxs, hst, hb1, hb2⟩ := HS.out i x hxp
    rw [hpl] at hR hC hRr hvr
    obtain ⟨⟨df, ls, rs⟩, hs1e⟩ : ∃ st1, sts i = st1 := ⟨_, rfl⟩
    obtain ⟨st2, hst2⟩ : ∃ st2, sts (i + 1) = st2 := ⟨_, rfl⟩
    rw [hs1e] at hst hb1 hb2 hR hC hRr hvr
    rw [hst2] at hst
    dsimp only at hb1 hb2 hR hC hRr hvr
    clear hs1e
    have hpl2 : (pre ++ [(x, i)]).length = i + 1 := by rw [List.length_append, hpl]; rfl
    have c5 : X.cell? ⟨X1.heap.size, 0, none⟩ = some (.map (some (w.heap.size + 3))) := cell_of_row X _ 0 _ _ _ hm5
    have r0 : X.cell? ⟨w.heap.size + 1 + 1, 0, none⟩ = some v := cell_of_row X _ 0 _ _ _ hR
    have r1 : X.cell? ⟨w.heap.size + 1 + 1, 1, none⟩ = some (.int .i64 num) := cell_of_row X _ 1 _ _ _ hR
    have fR0 := frozen_of_row X _ 0 _ _ hR
    have fR1 := frozen_of_row X _ 1 _ _ hR
    dsimp only
    gi_wp2_with fail
    have hspl : x.size < 4294967281 := Nat.lt_of_le_of_lt hxs (by decide)
    refine ⟨trivial, (show CallsIn (Fence.wide.inRound _) 17 _ _ _ _ _ from callsIn_wide.2 (split_any x 32 hspl X)).mono ?_⟩
    rintro e X2 ⟨rfl, hX2⟩
    have hal2 : Below X.heap.size X X2 := by rw [hX2]; exact balloc (Below.refl _ _) _
    have kb2 : Blk X2 X.heap.size 9 ((pcs 32 x).map Value.string).toArray := by rw [hX2]; exact Blk.new X _ _
    have hR2 := Rd.kept hR (grown_new hal2) (by simp)
    have r02 : X2.cell? ⟨w.heap.size + 1 + 1, 0, none⟩ = some v := cell_of_row X2 _ 0 _ _ _ hR2
    have r12 : X2.cell? ⟨w.heap.size + 1 + 1, 1, none⟩ = some (.int .i64 num) := cell_of_row X2 _ 1 _ _ _ hR2
    have fR02 := frozen_of_row X2 _ 0 _ _ hR2
    have fR12 := frozen_of_row X2 _ 1 _ _ hR2
    rename_i K hK
    refine hK _ _ ?_
    clear hK K r0 r1 fR0 fR1 hspl
    obtain ⟨N, hN⟩ : ∃ N, (pcs 32 x).length = N := ⟨_, rfl⟩
    have hN32 : N ≤ 4294967290 := by
      have h2 := pcs_len 32 x
      have h3 := Lib.countB_le ⟨#[32]⟩ (one1 32) x.size x (Nat.le_refl _)
      rw [← hN, h2]
      exact Nat.le_trans (Nat.add_le_add_right (Nat.le_trans h3 hxs) 1) (by decide)
    rw [hN]
    have HB := Lib.hid (show _ ∧ _ ∧ _ ∧ _ ∧ _ ∧ _ ∧ _ ∧ _ ∧ _ ∧ _ ∧ _ ∧ _ ∧ _ ∧ _ ∧ _ ∧ _ from ⟨hR2, kb2, hal2, hC, hRr, hvr, hoc, hor, hdis, hM, hm5, hP, hE, hB, hN, hN32⟩)
    have HL := Lib.hid (show _ ∧ _ ∧ _ ∧ _ ∧ _ ∧ _ from ⟨hst2, hb1, hb2, hpl, hpl2, hXs⟩)
    have HI := Lib.hid (step_inv hst)
    clear hR2 kb2 hal2 hC hRr hvr hoc hor hdis hM hm5 hP hE hB hN hN32 hX2 hR hst hst2 hb1 hb2 hpl hpl2 hXs hpre hx hxp hxs
    --KINDS
    gi_wp2_with fail
    have hY1 : Rd ((X2.setCell ⟨w.heap.size + 1 + 1, 1, none⟩ (.int .i64 (i : Nat))).setCell ⟨w.heap.size + 1 + 1, 0, none⟩ (.slice (some ⟨X.heap.size, 0, none⟩) N N)).drew (w.heap.size + 1 + 1) (.slice (some ⟨X.heap.size, 0, none⟩) N N) (i : Nat) df vc vr ∧
        Wd ((X2.setCell ⟨w.heap.size + 1 + 1, 1, none⟩ (.int .i64 (i : Nat))).setCell ⟨w.heap.size + 1 + 1, 0, none⟩ (.slice (some ⟨X.heap.size, 0, none⟩) N N)).drew X.heap.size (pcs 32 x) 0 (.slice (some ⟨X.heap.size, 0, none⟩) N N) ∧
        X2.grownBy ((X2.setCell ⟨w.heap.size + 1 + 1, 1, none⟩ (.int .i64 (i : Nat))).setCell ⟨w.heap.size + 1 + 1, 0, none⟩ (.slice (some ⟨X.heap.size, 0, none⟩) N N)).drew (some (w.heap.size + 1 + 1)) := by
      obtain ⟨hR2, kb2, hal2, hC, hRr, hvr, hoc, hor, hdis, hM, hm5, hP, hE, hB, hN, hN32⟩ := HB.out
      obtain ⟨hst2, hb1, hb2, hpl, hpl2, hXs⟩ := HL.out
      have g1 := grown_set' (grown_refl X2 (w.heap.size + 1 + 1)) 1 (.int .i64 (i : Nat))
      have g2 := grown_set' g1 0 (.slice (some ⟨X.heap.size, 0, none⟩) N N)
      have b1 := heap_setCell_same X2 (w.heap.size + 1 + 1) 1 _ _ (.int .i64 (i : Nat)) hR2
      have b2 := heap_setCell_same _ (w.heap.size + 1 + 1) 0 _ _ (.slice (some ⟨X.heap.size, 0, none⟩) N N) b1
      have kb := kb2.kept g2 (fun e => by have := Option.some.inj e; omega)
      exact ⟨b2, ⟨kb, Nat.zero_le _, by rw [hN]; exact hN32, _, _, by rw [hN]; rfl, fun _ => ⟨rfl, by rw [hN]; rfl⟩⟩, grown_drew g2⟩
    obtain ⟨WY, hWY⟩ : ∃ WY, ((X2.setCell ⟨w.heap.size + 1 + 1, 1, none⟩ (.int .i64 (i : Nat))).setCell ⟨w.heap.size + 1 + 1, 0, none⟩ (.slice (some ⟨X.heap.size, 0, none⟩) N N)).drew = WY := ⟨_, rfl⟩
    rw [hWY] at hY1
    have HY1 := Lib.hid hY1
    have hYe := Lib.hid hWY
    clear hY1 hWY
    rcases HI.out with ⟨u, hi0, hcs, hu, he, hst2e⟩ | ⟨T, u, hi0, hrs, hcs, hl, hok, hu, he, hst2e⟩ | ⟨T, ue, u, e0, hi0, hcs, hl, hok, hue, he0, hpu, hnum, hu, he, hst2e⟩
    · have HS2 := Lib.hid hst2e
      have HI0 := Lib.hid hi0
      clear hst2e HI hi0
      refine wpIn_region_round l2 (by kernel_rfl) (by kernel_rfl) ?_
      refine any_gn 5 #[false, false, false, false, false] rfl rfl (fun ops Q hops hQ => ?_)
      have Hops := Lib.hid hops.out
      have p0 := congrArg (fun o : Array Oper => o[0]?) hops.out.symm
      have p1 := congrArg (fun o : Array Oper => o[1]?) hops.out.symm
      have p2 := congrArg (fun o : Array Oper => o[2]?) hops.out.symm
      have p3 := congrArg (fun o : Array Oper => o[3]?) hops.out.symm
      have p4 := congrArg (fun o : Array Oper => o[4]?) hops.out.symm
      simp only [List.getElem?_toArray, List.getElem?_cons_zero, List.getElem?_cons_succ] at p0 p1 p2 p3 p4
      clear hops
      rw [hYe.out]
      have rest : ∀ (Yn : World) (v1 : Value), Rd Yn (w.heap.size + 1 + 1) v1 (i : Nat) df vc vr → Wd Yn X.heap.size (pcs 32 x) 1 v1 → X2.grownBy Yn (some (w.heap.size + 1 + 1)) → Q .normal { tmps := #[.string s, undef, .pointer (some ⟨w.heap.size, 0, none⟩), .pointer (some ⟨w.heap.size + 1, 0, none⟩), .pointer (some ⟨w.heap.size + 1 + 1, 0, none⟩), .pointer (some ⟨X1.heap.size, 0, none⟩), .string lines, .bool true, .int .i64 (i : Nat), .string x, (.func (.func 119) #[] #[]), .func (.func 89) #[] #[.pointer (some ⟨w.heap.size + 1, 0, none⟩)], .map (some (w.heap.size + 3)), .tuple #[.string lines, .bool true], .string s, .tuple #[.string lines, .bool true], .string lines, .bool true, .bool true, .tuple #[], .string lines, .func (.func 87) #[] #[.pointer (some ⟨X1.heap.size + 1, 0, none⟩)], .int .i64 (i : Nat), .string x, .int .i64 (i : Nat), .string x, .slice (some ⟨X.heap.size, 0, none⟩) N N, .pointer (some ⟨w.heap.size + 1 + 1, 1, none⟩), .pointer (some ⟨w.heap.size + 1 + 1, 0, none⟩), .map (some (w.heap.size + 3)), .pointer (some ⟨w.heap.size + 1 + 1, 0, none⟩), .string sDef, (.func (.func 119) #[] #[]), undef, undef, undef, undef, undef, undef, undef, undef, undef, undef, undef, undef], defers := [] } Yn := by
        rw [← hQ.out]
        intro Yn v1 hRn hbn hgn
        obtain ⟨hR2, kb2, hal2, hC, hRr, hvr, hoc, hor, hdis, hM, hm5, hP, hE, hB, hN, hN32⟩ := HB.out
        obtain ⟨hst2, hb1, hb2, hpl, hpl2, hXs⟩ := HL.out
        have hs2 := hal2.size
        have hsn := hgn.size
        have hBn : Below w.heap.size w Yn := (hB.trans (hal2.mono hB.size)).grown hgn (Nat.le_trans hB.size hs2) (fun k e => by cases e; omega)
        have hTSn : ∀ w', Yn.grownBy w' (some (w.heap.size + 1 + 1)) → TZ w' := fun w' h => HT.out.2 w' (hBn.grown h hBn.size (fun k e => by cases e; omega))
        have kXn : KeptM (fun k => k < W0.heap.size + 9 ∧ k ≠ (w.heap.size + 1 + 1)) X Yn := (KeptM.new hal2).trans (KeptM.grown hgn (fun r e h => by cases e; exact h.2 rfl))
        have kXa : KeptM (fun k => k ≠ (w.heap.size + 1 + 1)) X Yn := (KeptM.new hal2).trans (KeptM.grown hgn (fun r e h => by cases e; exact h rfl))
        have hBXn : Below w.heap.size X Yn := (hal2.mono hB.size).grown hgn (Nat.le_trans hB.size hs2) (fun k e => by cases e; omega)
        have hCn : OwC Yn w.heap.size vc ls := ⟨own_keptM hC.1 kXa (fun g e => by have := hoc g e; omega), hC.2⟩
        have hRrn : OwR Yn w.heap.size vr rs := ⟨own_keptM hRr.1 kXa (fun g e => by have := hor g e; omega), hRr.2⟩
        rw [HI0.out] at hRn
        have hnf : ∀ Y, (binOp .neq 146 (.func (.func 119) #[] #[]) .nilFunc).run Tryz.prog Y = .ok (.bool true) Y := fun Y => by kernel_rfl
        have HCALL := Lib.hid (default_ok (w.heap.size + 1 + 1) X.heap.size 1 _ _ u v1 df vc vr Yn hRn hbn (by rw [hcs]; rfl) hu he rfl hTSn)
        have HY := Lib.hid (show _ ∧ _ ∧ _ ∧ _ ∧ _ from ⟨kXn, hBXn, hCn, hRrn, hsn⟩)
        clear hRn hbn hgn hR2 kb2 hal2 hC hRr hvr hoc hor hdis hM hm5 hP hE hB hN hN32 hst2 hb1 hb2 hpl hpl2 hXs hBn hTSn kXn kXa hBXn hCn hRrn hs2 hsn
        gi_wp2_with fail
        refine ⟨trivial, (show CallsIn (Fence.wide.inRound _) 17 _ _ _ _ _ from callsIn_wide.2 (need_b _ rfl _)).mono ?_⟩
        rintro e Y2 ⟨rfl, rfl⟩
        rename_i K1 hK1
        refine hK1 _ _ ?_
        clear hK1 K1
        gi_wp2_with fail
        refine ⟨trivial, (show CallsIn (Fence.wide.inRound _) 17 _ _ _ _ _ from callsIn_wide.2 (HCALL.out)).mono ?_⟩
        rintro e Z ⟨rfl, v2, hRz, hbz, hgz⟩
        rename_i K1 hK1
        refine hK1 _ _ ?_
        clear hK1 K1 HCALL
        obtain ⟨xw, cw, rfl⟩ : ∃ xw cw, v2 = .slice xw 0 cw := by
          obtain ⟨_, _, _, xw, cw, e, _⟩ := hbz
          exact ⟨xw, cw, by rw [e, hcs]; rfl⟩
        have z0 : Z.cell? ⟨w.heap.size + 1 + 1, 0, none⟩ = some (.slice xw 0 cw) := cell_of_row Z _ 0 _ _ _ hRz
        have hfin : KeptM (fun k => W0.heap.size ≤ k ∧ k < W0.heap.size + 9) X Z ∧ Below w.heap.size X Z ∧ RI w X1.heap.size W0.heap.size sts (pre ++ [(x, i)]) Z := by
          obtain ⟨kXn, hBXn, hCn, hRrn, hsn⟩ := HY.out
          obtain ⟨hR2, kb2, hal2, hC, hRr, hvr, hoc, hor, hdis, hM, hm5, hP, hE, hB, hN, hN32⟩ := HB.out
          obtain ⟨hst2, hb1, hb2, hpl, hpl2, hXs⟩ := HL.out
          have hst2z := hst2.trans HS2.out
          have hs2 := hal2.size
          have kYZ : KeptM (fun k => k ≠ (w.heap.size + 1 + 1)) Yn Z := KeptM.grown hgz (fun r e h => by cases e; exact h rfl)
          have hCz : OwC Z w.heap.size vc ls := ⟨own_keptM hCn.1 kYZ (fun g e => by have := hoc g e; omega), hCn.2⟩
          have hRrz : OwR Z w.heap.size vr rs := ⟨own_keptM hRrn.1 kYZ (fun g e => by have := hor g e; omega), hRrn.2⟩
          exact line_endD (by omega) (by omega) hs1 hpl2 hst2z hRz hCz hRrz hvr ⟨hoc, hor, hdis⟩ hM hm5 hP hE hB (kXn.trans (kYZ.mono (fun k (h : k < W0.heap.size + 9 ∧ k ≠ w.heap.size + 1 + 1) => h.2))) (hBXn.trans ((Below.refl _ _).grown hgz (by have := hB.size; omega) (fun k e => by cases e; omega)))
        have HF := Lib.hid hfin
        clear hfin HY hRz hbz hgz
        gi_wp2_with fail
        refine ⟨trivial, (show CallsIn (Fence.wide.inRound _) 17 _ _ _ _ _ from callsIn_wide.2 (need_b _ rfl _)).mono ?_⟩
        rintro e Z2 ⟨rfl, rfl⟩
        rename_i K1 hK1
        refine hK1 _ _ ?_
        clear hK1 K1
        gi_wp2_with fail
        exact ⟨HF.out.1.mono (fun k h => (hHq k).1 h), HF.out.2⟩
      have HREST := Lib.hid rest
      clear rest
      have look : ∀ Yn : World, WM Yn (w.heap.size + 3) → (Instr.lookup 142 (.map (some (w.heap.size + 3))) (.string sDef) false).run Tryz.prog Yn = .ok (.func (.func 119) #[] #[]) Yn := fun Yn h => look_str _ _ _ _ _ _ Yn h find_def
      have wm : ∀ Yn : World, X2.grownBy Yn (some (w.heap.size + 1 + 1)) → WM Yn (w.heap.size + 3) ∧ Yn.cell? ⟨X1.heap.size, 0, none⟩ = some (.map (some (w.heap.size + 3))) := fun Yn hgn => by
        obtain ⟨hR2, kb2, hal2, hC, hRr, hvr, hoc, hor, hdis, hM, hm5, hP, hE, hB, hN, hN32⟩ := HB.out
        have h1 := hM.kept (grown_new hal2) (by simp)
        have h2 := hm5.keep hal2
        exact ⟨h1.kept hgn (fun e => by have := Option.some.inj e; omega), cell_of_row _ _ 0 _ _ _ (h2.kept hgn (fun e => by have := Option.some.inj e; omega))⟩
      have HWM := Lib.hid wm
      clear wm
      have s012 : ∀ (Yn : World) (v1 : Value), Rd Yn (w.heap.size + 1 + 1) v1 (i : Nat) df vc vr → Wd Yn X.heap.size (pcs 32 x) 1 v1 → X2.grownBy Yn (some (w.heap.size + 1 + 1)) → wpAnyIn Fence.wide (20 - 1 - 1) Tryz.prog .any ops Q 2 #[true, true, true, false, false] { tmps := #[.string s, undef, .pointer (some ⟨w.heap.size, 0, none⟩), .pointer (some ⟨w.heap.size + 1, 0, none⟩), .pointer (some ⟨w.heap.size + 1 + 1, 0, none⟩), .pointer (some ⟨X1.heap.size, 0, none⟩), .string lines, .bool true, .int .i64 (i : Nat), .string x, undef, .func (.func 89) #[] #[.pointer (some ⟨w.heap.size + 1, 0, none⟩)], .map (some (w.heap.size + 3)), .tuple #[.string lines, .bool true], .string s, .tuple #[.string lines, .bool true], .string lines, .bool true, .bool true, .tuple #[], .string lines, .func (.func 87) #[] #[.pointer (some ⟨X1.heap.size + 1, 0, none⟩)], .int .i64 (i : Nat), .string x, .int .i64 (i : Nat), .string x, .slice (some ⟨X.heap.size, 0, none⟩) N N, .pointer (some ⟨w.heap.size + 1 + 1, 1, none⟩), .pointer (some ⟨w.heap.size + 1 + 1, 0, none⟩), .map (some (w.heap.size + 3)), .pointer (some ⟨w.heap.size + 1 + 1, 0, none⟩), .string sDef, undef, undef, undef, undef, undef, undef, undef, undef, undef, undef, undef, undef, undef], defers := [] } Yn := by
        intro Yn v1 hRn hbn hgn
        have hlk := look Yn (HWM.out Yn hgn).1
        refine wpAnyIn_ready (rs := [3]) (by rw [← Hops.out]; kernel_rfl) (by simp) ?_
        refine AllReadyIn.cons p3 (fun K hK => ?_) AllReadyIn.nil
        simp only [List.setIfInBounds_toArray, List.set_cons_zero, List.set_cons_succ] at hK
        go_simp
        refine hK _ _ ?_
        clear hK K
        refine wpAnyIn_ready (rs := [4]) (by rw [← Hops.out]; kernel_rfl) (by simp) ?_
        refine AllReadyIn.cons p4 (fun K hK => ?_) AllReadyIn.nil
        simp only [List.setIfInBounds_toArray, List.set_cons_zero, List.set_cons_succ] at hK
        go_simp
        refine hK _ _ ?_
        clear hK K
        exact wpAnyIn_done (by rw [← Hops.out]; kernel_rfl) (HREST.out Yn v1 hRn hbn hgn) _
      have HY0 := Lib.hid (show Rd WY (w.heap.size + 1 + 1) (.slice (some ⟨X.heap.size, 0, none⟩) N N) (i : Nat) df vc vr ∧ Wd WY X.heap.size (pcs 32 x) 0 (.slice (some ⟨X.heap.size, 0, none⟩) N N) ∧ X2.grownBy WY (some (w.heap.size + 1 + 1)) from HY1.out)
      have c5Y := (HWM.out WY HY0.out.2.2).2
      have s01 : wpAnyIn Fence.wide (20 - 1 - 1) Tryz.prog .any ops Q 3 #[true, true, false, false, false] { tmps := #[.string s, undef, .pointer (some ⟨w.heap.size, 0, none⟩), .pointer (some ⟨w.heap.size + 1, 0, none⟩), .pointer (some ⟨w.heap.size + 1 + 1, 0, none⟩), .pointer (some ⟨X1.heap.size, 0, none⟩), .string lines, .bool true, .int .i64 (i : Nat), .string x, undef, .func (.func 89) #[] #[.pointer (some ⟨w.heap.size + 1, 0, none⟩)], .map (some (w.heap.size + 3)), .tuple #[.string lines, .bool true], .string s, .tuple #[.string lines, .bool true], .string lines, .bool true, .bool true, .tuple #[], .string lines, .func (.func 87) #[] #[.pointer (some ⟨X1.heap.size + 1, 0, none⟩)], .int .i64 (i : Nat), .string x, .int .i64 (i : Nat), .string x, .slice (some ⟨X.heap.size, 0, none⟩) N N, .pointer (some ⟨w.heap.size + 1 + 1, 1, none⟩), .pointer (some ⟨w.heap.size + 1 + 1, 0, none⟩), .map (some (w.heap.size + 3)), .pointer (some ⟨w.heap.size + 1 + 1, 0, none⟩), undef, undef, undef, undef, undef, undef, undef, undef, undef, undef, undef, undef, undef, undef], defers := [] } WY := by
        refine wpAnyIn_ready (rs := [2]) (by rw [← Hops.out]; kernel_rfl) (by simp) ?_
        refine AllReadyIn.cons p2 (fun K hK => ?_) AllReadyIn.nil
        simp only [List.setIfInBounds_toArray, List.set_cons_zero, List.set_cons_succ] at hK
        go_simp
        refine ⟨trivial, (callsIn_wide.2 (next_ok (w.heap.size + 1 + 1) X.heap.size 0 (pcs 32 x) sDef _ (i : Nat) df vc vr _ HY0.out.1 HY0.out.2.1 (by rw [hcs]; rfl))).mono ?_⟩
        rintro e Yn ⟨rfl, v1, hRn, hbn, hgn⟩
        exact hK _ _ (s012 Yn v1 hRn hbn (grown_both HY0.out.2.2 hgn))
      have s12 : ∀ (Yn : World) (v1 : Value), Rd Yn (w.heap.size + 1 + 1) v1 (i : Nat) df vc vr → Wd Yn X.heap.size (pcs 32 x) 1 v1 → X2.grownBy Yn (some (w.heap.size + 1 + 1)) → wpAnyIn Fence.wide (20 - 1 - 1) Tryz.prog .any ops Q 3 #[false, true, true, false, false] { tmps := #[.string s, undef, .pointer (some ⟨w.heap.size, 0, none⟩), .pointer (some ⟨w.heap.size + 1, 0, none⟩), .pointer (some ⟨w.heap.size + 1 + 1, 0, none⟩), .pointer (some ⟨X1.heap.size, 0, none⟩), .string lines, .bool true, .int .i64 (i : Nat), .string x, undef, .func (.func 89) #[] #[.pointer (some ⟨w.heap.size + 1, 0, none⟩)], .map (some (w.heap.size + 3)), .tuple #[.string lines, .bool true], .string s, .tuple #[.string lines, .bool true], .string lines, .bool true, .bool true, .tuple #[], .string lines, .func (.func 87) #[] #[.pointer (some ⟨X1.heap.size + 1, 0, none⟩)], .int .i64 (i : Nat), .string x, .int .i64 (i : Nat), .string x, .slice (some ⟨X.heap.size, 0, none⟩) N N, .pointer (some ⟨w.heap.size + 1 + 1, 1, none⟩), .pointer (some ⟨w.heap.size + 1 + 1, 0, none⟩), undef, .pointer (some ⟨w.heap.size + 1 + 1, 0, none⟩), .string sDef, undef, undef, undef, undef, undef, undef, undef, undef, undef, undef, undef, undef, undef], defers := [] } Yn := by
        intro Yn v1 hRn hbn hgn
        have c5n := (HWM.out Yn hgn).2
        refine wpAnyIn_ready (rs := [0]) (by rw [← Hops.out]; kernel_rfl) (by simp) ?_
        refine AllReadyIn.cons p0 (fun K hK => ?_) AllReadyIn.nil
        simp only [List.setIfInBounds_toArray, List.set_cons_zero, List.set_cons_succ] at hK
        go_simp
        exact hK _ _ (s012 Yn v1 hRn hbn hgn)
      have s1 : wpAnyIn Fence.wide (20 - 1 - 1) Tryz.prog .any ops Q 4 #[false, true, false, false, false] { tmps := #[.string s, undef, .pointer (some ⟨w.heap.size, 0, none⟩), .pointer (some ⟨w.heap.size + 1, 0, none⟩), .pointer (some ⟨w.heap.size + 1 + 1, 0, none⟩), .pointer (some ⟨X1.heap.size, 0, none⟩), .string lines, .bool true, .int .i64 (i : Nat), .string x, undef, .func (.func 89) #[] #[.pointer (some ⟨w.heap.size + 1, 0, none⟩)], .map (some (w.heap.size + 3)), .tuple #[.string lines, .bool true], .string s, .tuple #[.string lines, .bool true], .string lines, .bool true, .bool true, .tuple #[], .string lines, .func (.func 87) #[] #[.pointer (some ⟨X1.heap.size + 1, 0, none⟩)], .int .i64 (i : Nat), .string x, .int .i64 (i : Nat), .string x, .slice (some ⟨X.heap.size, 0, none⟩) N N, .pointer (some ⟨w.heap.size + 1 + 1, 1, none⟩), .pointer (some ⟨w.heap.size + 1 + 1, 0, none⟩), undef, .pointer (some ⟨w.heap.size + 1 + 1, 0, none⟩), undef, undef, undef, undef, undef, undef, undef, undef, undef, undef, undef, undef, undef, undef], defers := [] } WY := by
        refine wpAnyIn_ready (rs := [0, 2]) (by rw [← Hops.out]; kernel_rfl) (by simp) ?_
        refine AllReadyIn.cons p0 (fun K hK => ?_) (AllReadyIn.cons p2 (fun K hK => ?_) AllReadyIn.nil)
        · simp only [List.setIfInBounds_toArray, List.set_cons_zero, List.set_cons_succ] at hK
          go_simp
          exact hK _ _ s01
        · simp only [List.setIfInBounds_toArray, List.set_cons_zero, List.set_cons_succ] at hK
          go_simp
          refine ⟨trivial, (callsIn_wide.2 (next_ok (w.heap.size + 1 + 1) X.heap.size 0 (pcs 32 x) sDef _ (i : Nat) df vc vr _ HY0.out.1 HY0.out.2.1 (by rw [hcs]; rfl))).mono ?_⟩
          rintro e Yn ⟨rfl, v1, hRn, hbn, hgn⟩
          exact hK _ _ (s12 Yn v1 hRn hbn (grown_both HY0.out.2.2 hgn))
      refine wpAnyIn_ready (rs := [0, 1]) (by rw [← Hops.out]; kernel_rfl) (by simp) ?_
      refine AllReadyIn.cons p0 (fun K hK => ?_) (AllReadyIn.cons p1 (fun K hK => ?_) AllReadyIn.nil)
      · simp only [List.setIfInBounds_toArray, List.set_cons_zero, List.set_cons_succ] at hK
        go_simp
        refine hK _ _ ?_
        clear hK K
        refine wpAnyIn_ready (rs := [1]) (by rw [← Hops.out]; kernel_rfl) (by simp) ?_
        refine AllReadyIn.cons p1 (fun K hK => ?_) AllReadyIn.nil
        simp only [List.setIfInBounds_toArray, List.set_cons_zero, List.set_cons_succ] at hK
        go_simp
        exact hK _ _ s01
      · simp only [List.setIfInBounds_toArray, List.set_cons_zero, List.set_cons_succ] at hK
        go_simp
        exact hK _ _ s1
    · have HS2 := Lib.hid hst2e
      subst hrs
      clear hst2e HI
      refine wpIn_region_round l2 (by kernel_rfl) (by kernel_rfl) ?_
      refine any_gn 5 #[false, false, false, false, false] rfl rfl (fun ops Q hops hQ => ?_)
      have Hops := Lib.hid hops.out
      have p0 := congrArg (fun o : Array Oper => o[0]?) hops.out.symm
      have p1 := congrArg (fun o : Array Oper => o[1]?) hops.out.symm
      have p2 := congrArg (fun o : Array Oper => o[2]?) hops.out.symm
      have p3 := congrArg (fun o : Array Oper => o[3]?) hops.out.symm
      have p4 := congrArg (fun o : Array Oper => o[4]?) hops.out.symm
      simp only [List.getElem?_toArray, List.getElem?_cons_zero, List.getElem?_cons_succ] at p0 p1 p2 p3 p4
      clear hops
      rw [hYe.out]
      have rest : ∀ (Yn : World) (v1 : Value), Rd Yn (w.heap.size + 1 + 1) v1 (i : Nat) df vc vr → Wd Yn X.heap.size (pcs 32 x) 1 v1 → X2.grownBy Yn (some (w.heap.size + 1 + 1)) → Q .normal { tmps := #[.string s, undef, .pointer (some ⟨w.heap.size, 0, none⟩), .pointer (some ⟨w.heap.size + 1, 0, none⟩), .pointer (some ⟨w.heap.size + 1 + 1, 0, none⟩), .pointer (some ⟨X1.heap.size, 0, none⟩), .string lines, .bool true, .int .i64 (i : Nat), .string x, (.func (.func 120) #[] #[]), .func (.func 89) #[] #[.pointer (some ⟨w.heap.size + 1, 0, none⟩)], .map (some (w.heap.size + 3)), .tuple #[.string lines, .bool true], .string s, .tuple #[.string lines, .bool true], .string lines, .bool true, .bool true, .tuple #[], .string lines, .func (.func 87) #[] #[.pointer (some ⟨X1.heap.size + 1, 0, none⟩)], .int .i64 (i : Nat), .string x, .int .i64 (i : Nat), .string x, .slice (some ⟨X.heap.size, 0, none⟩) N N, .pointer (some ⟨w.heap.size + 1 + 1, 1, none⟩), .pointer (some ⟨w.heap.size + 1 + 1, 0, none⟩), .map (some (w.heap.size + 3)), .pointer (some ⟨w.heap.size + 1 + 1, 0, none⟩), .string sClr, (.func (.func 120) #[] #[]), undef, undef, undef, undef, undef, undef, undef, undef, undef, undef, undef, undef], defers := [] } Yn := by
        rw [← hQ.out]
        intro Yn v1 hRn hbn hgn
        obtain ⟨hR2, kb2, hal2, hC, hRr, hvr, hoc, hor, hdis, hM, hm5, hP, hE, hB, hN, hN32⟩ := HB.out
        obtain ⟨hst2, hb1, hb2, hpl, hpl2, hXs⟩ := HL.out
        have hs2 := hal2.size
        have hsn := hgn.size
        have hBn : Below w.heap.size w Yn := (hB.trans (hal2.mono hB.size)).grown hgn (Nat.le_trans hB.size hs2) (fun k e => by cases e; omega)
        have hTSn : ∀ w', Yn.grownBy w' (some (w.heap.size + 1 + 1)) → TZ w' := fun w' h => HT.out.2 w' (hBn.grown h hBn.size (fun k e => by cases e; omega))
        have kXn : KeptM (fun k => k < W0.heap.size + 9 ∧ k ≠ (w.heap.size + 1 + 1)) X Yn := (KeptM.new hal2).trans (KeptM.grown hgn (fun r e h => by cases e; exact h.2 rfl))
        have kXa : KeptM (fun k => k ≠ (w.heap.size + 1 + 1)) X Yn := (KeptM.new hal2).trans (KeptM.grown hgn (fun r e h => by cases e; exact h rfl))
        have hBXn : Below w.heap.size X Yn := (hal2.mono hB.size).grown hgn (Nat.le_trans hB.size hs2) (fun k e => by cases e; omega)
        have hCn : OwC Yn w.heap.size vc ls := ⟨own_keptM hC.1 kXa (fun g e => by have := hoc g e; omega), hC.2⟩
        have hRrn : OwR Yn w.heap.size vr [] := ⟨own_keptM hRr.1 kXa (fun g e => by have := hor g e; omega), hRr.2⟩
        have hown : vc.ownBlock ≠ some (w.heap.size + 1 + 1) ∧ vc.ownBlock ≠ some X.heap.size := ⟨fun e => by have := hoc _ e; omega, fun e => by have := (hC.1.lt _ e).2; omega⟩
        rw [hvr (by trivial)] at hRn
        have hnf : ∀ Y, (binOp .neq 146 (.func (.func 120) #[] #[]) .nilFunc).run Tryz.prog Y = .ok (.bool true) Y := fun Y => by kernel_rfl
        have HCALL := Lib.hid (clear_ok (w.heap.size + 1 + 1) X.heap.size 1 _ w.heap.size _ T u v1 i df vc ls Yn hRn hbn hi0 (by rw [hcs]; rfl) (by rw [hcs]; rfl) hl hok hu he rfl hTSn (by omega) hBn.size hCn hown (labV_lt _) hb1)
        have HY := Lib.hid (show _ ∧ _ ∧ _ ∧ _ ∧ _ from ⟨kXn, hBXn, hCn, hRrn, hsn⟩)
        clear hRn hbn hgn hR2 kb2 hal2 hC hRr hvr hoc hor hdis hM hm5 hP hE hB hN hN32 hst2 hb1 hb2 hpl hpl2 hXs hBn hTSn kXn kXa hBXn hCn hRrn hs2 hsn
        gi_wp2_with fail
        refine ⟨trivial, (show CallsIn (Fence.wide.inRound _) 17 _ _ _ _ _ from callsIn_wide.2 (need_b _ rfl _)).mono ?_⟩
        rintro e Y2 ⟨rfl, rfl⟩
        rename_i K1 hK1
        refine hK1 _ _ ?_
        clear hK1 K1
        gi_wp2_with fail
        refine ⟨trivial, (show CallsIn (Fence.wide.inRound _) 17 _ _ _ _ _ from callsIn_wide.2 (HCALL.out)).mono ?_⟩
        rintro e Z ⟨rfl, v2, vc2, hRz, hbz, hCz, hoz, hBz, hKz⟩
        rename_i K1 hK1
        refine hK1 _ _ ?_
        clear hK1 K1 HCALL
        obtain ⟨xw, cw, rfl⟩ : ∃ xw cw, v2 = .slice xw 0 cw := by
          obtain ⟨_, _, _, xw, cw, e, _⟩ := hbz
          exact ⟨xw, cw, by rw [e, hcs]; rfl⟩
        have z0 : Z.cell? ⟨w.heap.size + 1 + 1, 0, none⟩ = some (.slice xw 0 cw) := cell_of_row Z _ 0 _ _ _ hRz
        have hfin : KeptM (fun k => W0.heap.size ≤ k ∧ k < W0.heap.size + 9) X Z ∧ Below w.heap.size X Z ∧ RI w X1.heap.size W0.heap.size sts (pre ++ [(x, i)]) Z := by
          obtain ⟨kXn, hBXn, hCn, hRrn, hsn⟩ := HY.out
          obtain ⟨hR2, kb2, hal2, hC, hRr, hvr, hoc, hor, hdis, hM, hm5, hP, hE, hB, hN, hN32⟩ := HB.out
          obtain ⟨hst2, hb1, hb2, hpl, hpl2, hXs⟩ := HL.out
          have hst2z := hst2.trans HS2.out
          have hs2 := hal2.size
          have hRrz : OwR Z w.heap.size vr [] := ⟨own_keptM hRrn.1 hKz (fun g e => ⟨by have := hor g e; omega, fun e2 => hdis g e2 e⟩), hRrn.2⟩
          have hvn := hvr (by trivial)
          have hnew : ∀ g, vc2.ownBlock = some g → vc.ownBlock = some g ∨ Yn.heap.size ≤ g := fun g e => by
            rcases hoz with h | ⟨g2, h, h2⟩
            · exact .inl (h.symm.trans e)
            · rw [h] at e; cases e; exact .inr h2
          rw [hvn] at hRrz
          exact line_end (by omega) (by omega) hs1 hpl2 hst2z hRz hCz hRrz (fun _ => rfl) ⟨fun g e => (hnew g e).elim (hoc g) (fun h => by omega), fun g e => (by cases e), fun g _ e => (by cases e)⟩ hM hm5 hP hE hB (kXn.trans (hKz.mono (fun k (h : k < W0.heap.size + 9 ∧ k ≠ w.heap.size + 1 + 1) => ⟨h.2, fun e => by have := hoc k e; omega⟩))) (hBXn.trans hBz)
        have HF := Lib.hid hfin
        clear hfin HY hRz hbz hCz hoz hBz hKz
        gi_wp2_with fail
        refine ⟨trivial, (show CallsIn (Fence.wide.inRound _) 17 _ _ _ _ _ from callsIn_wide.2 (need_b _ rfl _)).mono ?_⟩
        rintro e Z2 ⟨rfl, rfl⟩
        rename_i K1 hK1
        refine hK1 _ _ ?_
        clear hK1 K1
        gi_wp2_with fail
        exact ⟨HF.out.1.mono (fun k h => (hHq k).1 h), HF.out.2⟩
      have HREST := Lib.hid rest
      clear rest
      have look : ∀ Yn : World, WM Yn (w.heap.size + 3) → (Instr.lookup 142 (.map (some (w.heap.size + 3))) (.string sClr) false).run Tryz.prog Yn = .ok (.func (.func 120) #[] #[]) Yn := fun Yn h => look_str _ _ _ _ _ _ Yn h find_clr
      have wm : ∀ Yn : World, X2.grownBy Yn (some (w.heap.size + 1 + 1)) → WM Yn (w.heap.size + 3) ∧ Yn.cell? ⟨X1.heap.size, 0, none⟩ = some (.map (some (w.heap.size + 3))) := fun Yn hgn => by
        obtain ⟨hR2, kb2, hal2, hC, hRr, hvr, hoc, hor, hdis, hM, hm5, hP, hE, hB, hN, hN32⟩ := HB.out
        have h1 := hM.kept (grown_new hal2) (by simp)
        have h2 := hm5.keep hal2
        exact ⟨h1.kept hgn (fun e => by have := Option.some.inj e; omega), cell_of_row _ _ 0 _ _ _ (h2.kept hgn (fun e => by have := Option.some.inj e; omega))⟩
      have HWM := Lib.hid wm
      clear wm
      have s012 : ∀ (Yn : World) (v1 : Value), Rd Yn (w.heap.size + 1 + 1) v1 (i : Nat) df vc vr → Wd Yn X.heap.size (pcs 32 x) 1 v1 → X2.grownBy Yn (some (w.heap.size + 1 + 1)) → wpAnyIn Fence.wide (20 - 1 - 1) Tryz.prog .any ops Q 2 #[true, true, true, false, false] { tmps := #[.string s, undef, .pointer (some ⟨w.heap.size, 0, none⟩), .pointer (some ⟨w.heap.size + 1, 0, none⟩), .pointer (some ⟨w.heap.size + 1 + 1, 0, none⟩), .pointer (some ⟨X1.heap.size, 0, none⟩), .string lines, .bool true, .int .i64 (i : Nat), .string x, undef, .func (.func 89) #[] #[.pointer (some ⟨w.heap.size + 1, 0, none⟩)], .map (some (w.heap.size + 3)), .tuple #[.string lines, .bool true], .string s, .tuple #[.string lines, .bool true], .string lines, .bool true, .bool true, .tuple #[], .string lines, .func (.func 87) #[] #[.pointer (some ⟨X1.heap.size + 1, 0, none⟩)], .int .i64 (i : Nat), .string x, .int .i64 (i : Nat), .string x, .slice (some ⟨X.heap.size, 0, none⟩) N N, .pointer (some ⟨w.heap.size + 1 + 1, 1, none⟩), .pointer (some ⟨w.heap.size + 1 + 1, 0, none⟩), .map (some (w.heap.size + 3)), .pointer (some ⟨w.heap.size + 1 + 1, 0, none⟩), .string sClr, undef, undef, undef, undef, undef, undef, undef, undef, undef, undef, undef, undef, undef], defers := [] } Yn := by
        intro Yn v1 hRn hbn hgn
        have hlk := look Yn (HWM.out Yn hgn).1
        refine wpAnyIn_ready (rs := [3]) (by rw [← Hops.out]; kernel_rfl) (by simp) ?_
        refine AllReadyIn.cons p3 (fun K hK => ?_) AllReadyIn.nil
        simp only [List.setIfInBounds_toArray, List.set_cons_zero, List.set_cons_succ] at hK
        go_simp
        refine hK _ _ ?_
        clear hK K
        refine wpAnyIn_ready (rs := [4]) (by rw [← Hops.out]; kernel_rfl) (by simp) ?_
        refine AllReadyIn.cons p4 (fun K hK => ?_) AllReadyIn.nil
        simp only [List.setIfInBounds_toArray, List.set_cons_zero, List.set_cons_succ] at hK
        go_simp
        refine hK _ _ ?_
        clear hK K
        exact wpAnyIn_done (by rw [← Hops.out]; kernel_rfl) (HREST.out Yn v1 hRn hbn hgn) _
      have HY0 := Lib.hid (show Rd WY (w.heap.size + 1 + 1) (.slice (some ⟨X.heap.size, 0, none⟩) N N) (i : Nat) df vc vr ∧ Wd WY X.heap.size (pcs 32 x) 0 (.slice (some ⟨X.heap.size, 0, none⟩) N N) ∧ X2.grownBy WY (some (w.heap.size + 1 + 1)) from HY1.out)
      have c5Y := (HWM.out WY HY0.out.2.2).2
      have s01 : wpAnyIn Fence.wide (20 - 1 - 1) Tryz.prog .any ops Q 3 #[true, true, false, false, false] { tmps := #[.string s, undef, .pointer (some ⟨w.heap.size, 0, none⟩), .pointer (some ⟨w.heap.size + 1, 0, none⟩), .pointer (some ⟨w.heap.size + 1 + 1, 0, none⟩), .pointer (some ⟨X1.heap.size, 0, none⟩), .string lines, .bool true, .int .i64 (i : Nat), .string x, undef, .func (.func 89) #[] #[.pointer (some ⟨w.heap.size + 1, 0, none⟩)], .map (some (w.heap.size + 3)), .tuple #[.string lines, .bool true], .string s, .tuple #[.string lines, .bool true], .string lines, .bool true, .bool true, .tuple #[], .string lines, .func (.func 87) #[] #[.pointer (some ⟨X1.heap.size + 1, 0, none⟩)], .int .i64 (i : Nat), .string x, .int .i64 (i : Nat), .string x, .slice (some ⟨X.heap.size, 0, none⟩) N N, .pointer (some ⟨w.heap.size + 1 + 1, 1, none⟩), .pointer (some ⟨w.heap.size + 1 + 1, 0, none⟩), .map (some (w.heap.size + 3)), .pointer (some ⟨w.heap.size + 1 + 1, 0, none⟩), undef, undef, undef, undef, undef, undef, undef, undef, undef, undef, undef, undef, undef, undef], defers := [] } WY := by
        refine wpAnyIn_ready (rs := [2]) (by rw [← Hops.out]; kernel_rfl) (by simp) ?_
        refine AllReadyIn.cons p2 (fun K hK => ?_) AllReadyIn.nil
        simp only [List.setIfInBounds_toArray, List.set_cons_zero, List.set_cons_succ] at hK
        go_simp
        refine ⟨trivial, (callsIn_wide.2 (next_ok (w.heap.size + 1 + 1) X.heap.size 0 (pcs 32 x) sClr _ (i : Nat) df vc vr _ HY0.out.1 HY0.out.2.1 (by rw [hcs]; rfl))).mono ?_⟩
        rintro e Yn ⟨rfl, v1, hRn, hbn, hgn⟩
        exact hK _ _ (s012 Yn v1 hRn hbn (grown_both HY0.out.2.2 hgn))
      have s12 : ∀ (Yn : World) (v1 : Value), Rd Yn (w.heap.size + 1 + 1) v1 (i : Nat) df vc vr → Wd Yn X.heap.size (pcs 32 x) 1 v1 → X2.grownBy Yn (some (w.heap.size + 1 + 1)) → wpAnyIn Fence.wide (20 - 1 - 1) Tryz.prog .any ops Q 3 #[false, true, true, false, false] { tmps := #[.string s, undef, .pointer (some ⟨w.heap.size, 0, none⟩), .pointer (some ⟨w.heap.size + 1, 0, none⟩), .pointer (some ⟨w.heap.size + 1 + 1, 0, none⟩), .pointer (some ⟨X1.heap.size, 0, none⟩), .string lines, .bool true, .int .i64 (i : Nat), .string x, undef, .func (.func 89) #[] #[.pointer (some ⟨w.heap.size + 1, 0, none⟩)], .map (some (w.heap.size + 3)), .tuple #[.string lines, .bool true], .string s, .tuple #[.string lines, .bool true], .string lines, .bool true, .bool true, .tuple #[], .string lines, .func (.func 87) #[] #[.pointer (some ⟨X1.heap.size + 1, 0, none⟩)], .int .i64 (i : Nat), .string x, .int .i64 (i : Nat), .string x, .slice (some ⟨X.heap.size, 0, none⟩) N N, .pointer (some ⟨w.heap.size + 1 + 1, 1, none⟩), .pointer (some ⟨w.heap.size + 1 + 1, 0, none⟩), undef, .pointer (some ⟨w.heap.size + 1 + 1, 0, none⟩), .string sClr, undef, undef, undef, undef, undef, undef, undef, undef, undef, undef, undef, undef, undef], defers := [] } Yn := by
        intro Yn v1 hRn hbn hgn
        have c5n := (HWM.out Yn hgn).2
        refine wpAnyIn_ready (rs := [0]) (by rw [← Hops.out]; kernel_rfl) (by simp) ?_
        refine AllReadyIn.cons p0 (fun K hK => ?_) AllReadyIn.nil
        simp only [List.setIfInBounds_toArray, List.set_cons_zero, List.set_cons_succ] at hK
        go_simp
        exact hK _ _ (s012 Yn v1 hRn hbn hgn)
      have s1 : wpAnyIn Fence.wide (20 - 1 - 1) Tryz.prog .any ops Q 4 #[false, true, false, false, false] { tmps := #[.string s, undef, .pointer (some ⟨w.heap.size, 0, none⟩), .pointer (some ⟨w.heap.size + 1, 0, none⟩), .pointer (some ⟨w.heap.size + 1 + 1, 0, none⟩), .pointer (some ⟨X1.heap.size, 0, none⟩), .string lines, .bool true, .int .i64 (i : Nat), .string x, undef, .func (.func 89) #[] #[.pointer (some ⟨w.heap.size + 1, 0, none⟩)], .map (some (w.heap.size + 3)), .tuple #[.string lines, .bool true], .string s, .tuple #[.string lines, .bool true], .string lines, .bool true, .bool true, .tuple #[], .string lines, .func (.func 87) #[] #[.pointer (some ⟨X1.heap.size + 1, 0, none⟩)], .int .i64 (i : Nat), .string x, .int .i64 (i : Nat), .string x, .slice (some ⟨X.heap.size, 0, none⟩) N N, .pointer (some ⟨w.heap.size + 1 + 1, 1, none⟩), .pointer (some ⟨w.heap.size + 1 + 1, 0, none⟩), undef, .pointer (some ⟨w.heap.size + 1 + 1, 0, none⟩), undef, undef, undef, undef, undef, undef, undef, undef, undef, undef, undef, undef, undef, undef], defers := [] } WY := by
        refine wpAnyIn_ready (rs := [0, 2]) (by rw [← Hops.out]; kernel_rfl) (by simp) ?_
        refine AllReadyIn.cons p0 (fun K hK => ?_) (AllReadyIn.cons p2 (fun K hK => ?_) AllReadyIn.nil)
        · simp only [List.setIfInBounds_toArray, List.set_cons_zero, List.set_cons_succ] at hK
          go_simp
          exact hK _ _ s01
        · simp only [List.setIfInBounds_toArray, List.set_cons_zero, List.set_cons_succ] at hK
          go_simp
          refine ⟨trivial, (callsIn_wide.2 (next_ok (w.heap.size + 1 + 1) X.heap.size 0 (pcs 32 x) sClr _ (i : Nat) df vc vr _ HY0.out.1 HY0.out.2.1 (by rw [hcs]; rfl))).mono ?_⟩
          rintro e Yn ⟨rfl, v1, hRn, hbn, hgn⟩
          exact hK _ _ (s12 Yn v1 hRn hbn (grown_both HY0.out.2.2 hgn))
      refine wpAnyIn_ready (rs := [0, 1]) (by rw [← Hops.out]; kernel_rfl) (by simp) ?_
      refine AllReadyIn.cons p0 (fun K hK => ?_) (AllReadyIn.cons p1 (fun K hK => ?_) AllReadyIn.nil)
      · simp only [List.setIfInBounds_toArray, List.set_cons_zero, List.set_cons_succ] at hK
        go_simp
        refine hK _ _ ?_
        clear hK K
        refine wpAnyIn_ready (rs := [1]) (by rw [← Hops.out]; kernel_rfl) (by simp) ?_
        refine AllReadyIn.cons p1 (fun K hK => ?_) AllReadyIn.nil
        simp only [List.setIfInBounds_toArray, List.set_cons_zero, List.set_cons_succ] at hK
        go_simp
        exact hK _ _ s01
      · simp only [List.setIfInBounds_toArray, List.set_cons_zero, List.set_cons_succ] at hK
        go_simp
        exact hK _ _ s1
    · have HS2 := Lib.hid hst2e
      clear hst2e HI
      refine wpIn_region_round l2 (by kernel_rfl) (by kernel_rfl) ?_
      refine any_gn 5 #[false, false, false, false, false] rfl rfl (fun ops Q hops hQ => ?_)
      have Hops := Lib.hid hops.out
      have p0 := congrArg (fun o : Array Oper => o[0]?) hops.out.symm
      have p1 := congrArg (fun o : Array Oper => o[1]?) hops.out.symm
      have p2 := congrArg (fun o : Array Oper => o[2]?) hops.out.symm
      have p3 := congrArg (fun o : Array Oper => o[3]?) hops.out.symm
      have p4 := congrArg (fun o : Array Oper => o[4]?) hops.out.symm
      simp only [List.getElem?_toArray, List.getElem?_cons_zero, List.getElem?_cons_succ] at p0 p1 p2 p3 p4
      clear hops
      rw [hYe.out]
      have rest : ∀ (Yn : World) (v1 : Value), Rd Yn (w.heap.size + 1 + 1) v1 (i : Nat) df vc vr → Wd Yn X.heap.size (pcs 32 x) 1 v1 → X2.grownBy Yn (some (w.heap.size + 1 + 1)) → Q .normal { tmps := #[.string s, undef, .pointer (some ⟨w.heap.size, 0, none⟩), .pointer (some ⟨w.heap.size + 1, 0, none⟩), .pointer (some ⟨w.heap.size + 1 + 1, 0, none⟩), .pointer (some ⟨X1.heap.size, 0, none⟩), .string lines, .bool true, .int .i64 (i : Nat), .string x, (.func (.func 121) #[] #[]), .func (.func 89) #[] #[.pointer (some ⟨w.heap.size + 1, 0, none⟩)], .map (some (w.heap.size + 3)), .tuple #[.string lines, .bool true], .string s, .tuple #[.string lines, .bool true], .string lines, .bool true, .bool true, .tuple #[], .string lines, .func (.func 87) #[] #[.pointer (some ⟨X1.heap.size + 1, 0, none⟩)], .int .i64 (i : Nat), .string x, .int .i64 (i : Nat), .string x, .slice (some ⟨X.heap.size, 0, none⟩) N N, .pointer (some ⟨w.heap.size + 1 + 1, 1, none⟩), .pointer (some ⟨w.heap.size + 1 + 1, 0, none⟩), .map (some (w.heap.size + 3)), .pointer (some ⟨w.heap.size + 1 + 1, 0, none⟩), .string sRel, (.func (.func 121) #[] #[]), undef, undef, undef, undef, undef, undef, undef, undef, undef, undef, undef, undef], defers := [] } Yn := by
        rw [← hQ.out]
        intro Yn v1 hRn hbn hgn
        obtain ⟨hR2, kb2, hal2, hC, hRr, hvr, hoc, hor, hdis, hM, hm5, hP, hE, hB, hN, hN32⟩ := HB.out
        obtain ⟨hst2, hb1, hb2, hpl, hpl2, hXs⟩ := HL.out
        have hs2 := hal2.size
        have hsn := hgn.size
        have hBn : Below w.heap.size w Yn := (hB.trans (hal2.mono hB.size)).grown hgn (Nat.le_trans hB.size hs2) (fun k e => by cases e; omega)
        have hTSn : ∀ w', Yn.grownBy w' (some (w.heap.size + 1 + 1)) → TZ w' := fun w' h => HT.out.2 w' (hBn.grown h hBn.size (fun k e => by cases e; omega))
        have kXn : KeptM (fun k => k < W0.heap.size + 9 ∧ k ≠ (w.heap.size + 1 + 1)) X Yn := (KeptM.new hal2).trans (KeptM.grown hgn (fun r e h => by cases e; exact h.2 rfl))
        have kXa : KeptM (fun k => k ≠ (w.heap.size + 1 + 1)) X Yn := (KeptM.new hal2).trans (KeptM.grown hgn (fun r e h => by cases e; exact h rfl))
        have hBXn : Below w.heap.size X Yn := (hal2.mono hB.size).grown hgn (Nat.le_trans hB.size hs2) (fun k e => by cases e; omega)
        have hCn : OwC Yn w.heap.size vc ls := ⟨own_keptM hC.1 kXa (fun g e => by have := hoc g e; omega), hC.2⟩
        have hRrn : OwR Yn w.heap.size vr rs := ⟨own_keptM hRr.1 kXa (fun g e => by have := hor g e; omega), hRr.2⟩
        have hown : vr.ownBlock ≠ some (w.heap.size + 1 + 1) ∧ vr.ownBlock ≠ some X.heap.size := ⟨fun e => by have := hor _ e; omega, fun e => by have := (hRr.1.lt _ e).2; omega⟩
        have hnf : ∀ Y, (binOp .neq 146 (.func (.func 121) #[] #[]) .nilFunc).run Tryz.prog Y = .ok (.bool true) Y := fun Y => by kernel_rfl
        have HCALL := Lib.hid (release_ok (w.heap.size + 1 + 1) X.heap.size 1 e0 _ w.heap.size _ T ue u v1 i df vc vr rs Yn hRn hbn hi0 (by rw [hcs]; rfl) (by rw [hcs]; rfl) (by rw [hcs]; rfl) hue he0 hpu hnum hl hok hu he rfl hTSn (by omega) hBn.size hRrn hown (labV_lt _) hb2)
        have HY := Lib.hid (show _ ∧ _ ∧ _ ∧ _ ∧ _ from ⟨kXn, hBXn, hCn, hRrn, hsn⟩)
        clear hRn hbn hgn hR2 kb2 hal2 hC hRr hvr hoc hor hdis hM hm5 hP hE hB hN hN32 hst2 hb1 hb2 hpl hpl2 hXs hBn hTSn kXn kXa hBXn hCn hRrn hs2 hsn
        gi_wp2_with fail
        refine ⟨trivial, (show CallsIn (Fence.wide.inRound _) 17 _ _ _ _ _ from callsIn_wide.2 (need_b _ rfl _)).mono ?_⟩
        rintro e Y2 ⟨rfl, rfl⟩
        rename_i K1 hK1
        refine hK1 _ _ ?_
        clear hK1 K1
        gi_wp2_with fail
        refine ⟨trivial, (show CallsIn (Fence.wide.inRound _) 17 _ _ _ _ _ from callsIn_wide.2 (HCALL.out)).mono ?_⟩
        rintro e Z ⟨rfl, v2, vr2, hRz, hbz, hRrz, hoz, hBz, hKz⟩
        rename_i K1 hK1
        refine hK1 _ _ ?_
        clear hK1 K1 HCALL
        obtain ⟨xw, cw, rfl⟩ : ∃ xw cw, v2 = .slice xw 0 cw := by
          obtain ⟨_, _, _, xw, cw, e, _⟩ := hbz
          exact ⟨xw, cw, by rw [e, hcs]; rfl⟩
        have z0 : Z.cell? ⟨w.heap.size + 1 + 1, 0, none⟩ = some (.slice xw 0 cw) := cell_of_row Z _ 0 _ _ _ hRz
        have hfin : KeptM (fun k => W0.heap.size ≤ k ∧ k < W0.heap.size + 9) X Z ∧ Below w.heap.size X Z ∧ RI w X1.heap.size W0.heap.size sts (pre ++ [(x, i)]) Z := by
          obtain ⟨kXn, hBXn, hCn, hRrn, hsn⟩ := HY.out
          obtain ⟨hR2, kb2, hal2, hC, hRr, hvr, hoc, hor, hdis, hM, hm5, hP, hE, hB, hN, hN32⟩ := HB.out
          obtain ⟨hst2, hb1, hb2, hpl, hpl2, hXs⟩ := HL.out
          have hst2z := hst2.trans HS2.out
          have hs2 := hal2.size
          have hCz : OwC Z w.heap.size vc ls := ⟨own_keptM hCn.1 hKz (fun g e => ⟨by have := hoc g e; omega, hdis g e⟩), hCn.2⟩
          have hnew : ∀ g, vr2.ownBlock = some g → vr.ownBlock = some g ∨ Yn.heap.size ≤ g := fun g e => by
            rcases hoz with h | ⟨g2, h, h2⟩
            · exact .inl (h.symm.trans e)
            · rw [h] at e; cases e; exact .inr h2
          exact line_end (by omega) (by omega) hs1 hpl2 hst2z hRz hCz hRrz (fun e => by simp at e) ⟨hoc, fun g e => (hnew g e).elim (hor g) (fun h => by omega), fun g e e2 => (hnew g e2).elim (fun h => hdis g e h) (fun h => by have := (hCn.1.lt g e).2; omega)⟩ hM hm5 hP hE hB (kXn.trans (hKz.mono (fun k (h : k < W0.heap.size + 9 ∧ k ≠ w.heap.size + 1 + 1) => ⟨h.2, fun e => by have := hor k e; omega⟩))) (hBXn.trans hBz)
        have HF := Lib.hid hfin
        clear hfin HY hRz hbz hRrz hoz hBz hKz
        gi_wp2_with fail
        refine ⟨trivial, (show CallsIn (Fence.wide.inRound _) 17 _ _ _ _ _ from callsIn_wide.2 (need_b _ rfl _)).mono ?_⟩
        rintro e Z2 ⟨rfl, rfl⟩
        rename_i K1 hK1
        refine hK1 _ _ ?_
        clear hK1 K1
        gi_wp2_with fail
        exact ⟨HF.out.1.mono (fun k h => (hHq k).1 h), HF.out.2⟩
      have HREST := Lib.hid rest
      clear rest
      have look : ∀ Yn : World, WM Yn (w.heap.size + 3) → (Instr.lookup 142 (.map (some (w.heap.size + 3))) (.string sRel) false).run Tryz.prog Yn = .ok (.func (.func 121) #[] #[]) Yn := fun Yn h => look_str _ _ _ _ _ _ Yn h find_rel
      have wm : ∀ Yn : World, X2.grownBy Yn (some (w.heap.size + 1 + 1)) → WM Yn (w.heap.size + 3) ∧ Yn.cell? ⟨X1.heap.size, 0, none⟩ = some (.map (some (w.heap.size + 3))) := fun Yn hgn => by
        obtain ⟨hR2, kb2, hal2, hC, hRr, hvr, hoc, hor, hdis, hM, hm5, hP, hE, hB, hN, hN32⟩ := HB.out
        have h1 := hM.kept (grown_new hal2) (by simp)
        have h2 := hm5.keep hal2
        exact ⟨h1.kept hgn (fun e => by have := Option.some.inj e; omega), cell_of_row _ _ 0 _ _ _ (h2.kept hgn (fun e => by have := Option.some.inj e; omega))⟩
      have HWM := Lib.hid wm
      clear wm
      have s012 : ∀ (Yn : World) (v1 : Value), Rd Yn (w.heap.size + 1 + 1) v1 (i : Nat) df vc vr → Wd Yn X.heap.size (pcs 32 x) 1 v1 → X2.grownBy Yn (some (w.heap.size + 1 + 1)) → wpAnyIn Fence.wide (20 - 1 - 1) Tryz.prog .any ops Q 2 #[true, true, true, false, false] { tmps := #[.string s, undef, .pointer (some ⟨w.heap.size, 0, none⟩), .pointer (some ⟨w.heap.size + 1, 0, none⟩), .pointer (some ⟨w.heap.size + 1 + 1, 0, none⟩), .pointer (some ⟨X1.heap.size, 0, none⟩), .string lines, .bool true, .int .i64 (i : Nat), .string x, undef, .func (.func 89) #[] #[.pointer (some ⟨w.heap.size + 1, 0, none⟩)], .map (some (w.heap.size + 3)), .tuple #[.string lines, .bool true], .string s, .tuple #[.string lines, .bool true], .string lines, .bool true, .bool true, .tuple #[], .string lines, .func (.func 87) #[] #[.pointer (some ⟨X1.heap.size + 1, 0, none⟩)], .int .i64 (i : Nat), .string x, .int .i64 (i : Nat), .string x, .slice (some ⟨X.heap.size, 0, none⟩) N N, .pointer (some ⟨w.heap.size + 1 + 1, 1, none⟩), .pointer (some ⟨w.heap.size + 1 + 1, 0, none⟩), .map (some (w.heap.size + 3)), .pointer (some ⟨w.heap.size + 1 + 1, 0, none⟩), .string sRel, undef, undef, undef, undef, undef, undef, undef, undef, undef, undef, undef, undef, undef], defers := [] } Yn := by
        intro Yn v1 hRn hbn hgn
        have hlk := look Yn (HWM.out Yn hgn).1
        refine wpAnyIn_ready (rs := [3]) (by rw [← Hops.out]; kernel_rfl) (by simp) ?_
        refine AllReadyIn.cons p3 (fun K hK => ?_) AllReadyIn.nil
        simp only [List.setIfInBounds_toArray, List.set_cons_zero, List.set_cons_succ] at hK
        go_simp
        refine hK _ _ ?_
        clear hK K
        refine wpAnyIn_ready (rs := [4]) (by rw [← Hops.out]; kernel_rfl) (by simp) ?_
        refine AllReadyIn.cons p4 (fun K hK => ?_) AllReadyIn.nil
        simp only [List.setIfInBounds_toArray, List.set_cons_zero, List.set_cons_succ] at hK
        go_simp
        refine hK _ _ ?_
        clear hK K
        exact wpAnyIn_done (by rw [← Hops.out]; kernel_rfl) (HREST.out Yn v1 hRn hbn hgn) _
      have HY0 := Lib.hid (show Rd WY (w.heap.size + 1 + 1) (.slice (some ⟨X.heap.size, 0, none⟩) N N) (i : Nat) df vc vr ∧ Wd WY X.heap.size (pcs 32 x) 0 (.slice (some ⟨X.heap.size, 0, none⟩) N N) ∧ X2.grownBy WY (some (w.heap.size + 1 + 1)) from HY1.out)
      have c5Y := (HWM.out WY HY0.out.2.2).2
      have s01 : wpAnyIn Fence.wide (20 - 1 - 1) Tryz.prog .any ops Q 3 #[true, true, false, false, false] { tmps := #[.string s, undef, .pointer (some ⟨w.heap.size, 0, none⟩), .pointer (some ⟨w.heap.size + 1, 0, none⟩), .pointer (some ⟨w.heap.size + 1 + 1, 0, none⟩), .pointer (some ⟨X1.heap.size, 0, none⟩), .string lines, .bool true, .int .i64 (i : Nat), .string x, undef, .func (.func 89) #[] #[.pointer (some ⟨w.heap.size + 1, 0, none⟩)], .map (some (w.heap.size + 3)), .tuple #[.string lines, .bool true], .string s, .tuple #[.string lines, .bool true], .string lines, .bool true, .bool true, .tuple #[], .string lines, .func (.func 87) #[] #[.pointer (some ⟨X1.heap.size + 1, 0, none⟩)], .int .i64 (i : Nat), .string x, .int .i64 (i : Nat), .string x, .slice (some ⟨X.heap.size, 0, none⟩) N N, .pointer (some ⟨w.heap.size + 1 + 1, 1, none⟩), .pointer (some ⟨w.heap.size + 1 + 1, 0, none⟩), .map (some (w.heap.size + 3)), .pointer (some ⟨w.heap.size + 1 + 1, 0, none⟩), undef, undef, undef, undef, undef, undef, undef, undef, undef, undef, undef, undef, undef, undef], defers := [] } WY := by
        refine wpAnyIn_ready (rs := [2]) (by rw [← Hops.out]; kernel_rfl) (by simp) ?_
        refine AllReadyIn.cons p2 (fun K hK => ?_) AllReadyIn.nil
        simp only [List.setIfInBounds_toArray, List.set_cons_zero, List.set_cons_succ] at hK
        go_simp
        refine ⟨trivial, (callsIn_wide.2 (next_ok (w.heap.size + 1 + 1) X.heap.size 0 (pcs 32 x) sRel _ (i : Nat) df vc vr _ HY0.out.1 HY0.out.2.1 (by rw [hcs]; rfl))).mono ?_⟩
        rintro e Yn ⟨rfl, v1, hRn, hbn, hgn⟩
        exact hK _ _ (s012 Yn v1 hRn hbn (grown_both HY0.out.2.2 hgn))
      have s12 : ∀ (Yn : World) (v1 : Value), Rd Yn (w.heap.size + 1 + 1) v1 (i : Nat) df vc vr → Wd Yn X.heap.size (pcs 32 x) 1 v1 → X2.grownBy Yn (some (w.heap.size + 1 + 1)) → wpAnyIn Fence.wide (20 - 1 - 1) Tryz.prog .any ops Q 3 #[false, true, true, false, false] { tmps := #[.string s, undef, .pointer (some ⟨w.heap.size, 0, none⟩), .pointer (some ⟨w.heap.size + 1, 0, none⟩), .pointer (some ⟨w.heap.size + 1 + 1, 0, none⟩), .pointer (some ⟨X1.heap.size, 0, none⟩), .string lines, .bool true, .int .i64 (i : Nat), .string x, undef, .func (.func 89) #[] #[.pointer (some ⟨w.heap.size + 1, 0, none⟩)], .map (some (w.heap.size + 3)), .tuple #[.string lines, .bool true], .string s, .tuple #[.string lines, .bool true], .string lines, .bool true, .bool true, .tuple #[], .string lines, .func (.func 87) #[] #[.pointer (some ⟨X1.heap.size + 1, 0, none⟩)], .int .i64 (i : Nat), .string x, .int .i64 (i : Nat), .string x, .slice (some ⟨X.heap.size, 0, none⟩) N N, .pointer (some ⟨w.heap.size + 1 + 1, 1, none⟩), .pointer (some ⟨w.heap.size + 1 + 1, 0, none⟩), undef, .pointer (some ⟨w.heap.size + 1 + 1, 0, none⟩), .string sRel, undef, undef, undef, undef, undef, undef, undef, undef, undef, undef, undef, undef, undef], defers := [] } Yn := by
        intro Yn v1 hRn hbn hgn
        have c5n := (HWM.out Yn hgn).2
        refine wpAnyIn_ready (rs := [0]) (by rw [← Hops.out]; kernel_rfl) (by simp) ?_
        refine AllReadyIn.cons p0 (fun K hK => ?_) AllReadyIn.nil
        simp only [List.setIfInBounds_toArray, List.set_cons_zero, List.set_cons_succ] at hK
        go_simp
        exact hK _ _ (s012 Yn v1 hRn hbn hgn)
      have s1 : wpAnyIn Fence.wide (20 - 1 - 1) Tryz.prog .any ops Q 4 #[false, true, false, false, false] { tmps := #[.string s, undef, .pointer (some ⟨w.heap.size, 0, none⟩), .pointer (some ⟨w.heap.size + 1, 0, none⟩), .pointer (some ⟨w.heap.size + 1 + 1, 0, none⟩), .pointer (some ⟨X1.heap.size, 0, none⟩), .string lines, .bool true, .int .i64 (i : Nat), .string x, undef, .func (.func 89) #[] #[.pointer (some ⟨w.heap.size + 1, 0, none⟩)], .map (some (w.heap.size + 3)), .tuple #[.string lines, .bool true], .string s, .tuple #[.string lines, .bool true], .string lines, .bool true, .bool true, .tuple #[], .string lines, .func (.func 87) #[] #[.pointer (some ⟨X1.heap.size + 1, 0, none⟩)], .int .i64 (i : Nat), .string x, .int .i64 (i : Nat), .string x, .slice (some ⟨X.heap.size, 0, none⟩) N N, .pointer (some ⟨w.heap.size + 1 + 1, 1, none⟩), .pointer (some ⟨w.heap.size + 1 + 1, 0, none⟩), undef, .pointer (some ⟨w.heap.size + 1 + 1, 0, none⟩), undef, undef, undef, undef, undef, undef, undef, undef, undef, undef, undef, undef, undef, undef], defers := [] } WY := by
        refine wpAnyIn_ready (rs := [0, 2]) (by rw [← Hops.out]; kernel_rfl) (by simp) ?_
        refine AllReadyIn.cons p0 (fun K hK => ?_) (AllReadyIn.cons p2 (fun K hK => ?_) AllReadyIn.nil)
        · simp only [List.setIfInBounds_toArray, List.set_cons_zero, List.set_cons_succ] at hK
          go_simp
          exact hK _ _ s01
        · simp only [List.setIfInBounds_toArray, List.set_cons_zero, List.set_cons_succ] at hK
          go_simp
          refine ⟨trivial, (callsIn_wide.2 (next_ok (w.heap.size + 1 + 1) X.heap.size 0 (pcs 32 x) sRel _ (i : Nat) df vc vr _ HY0.out.1 HY0.out.2.1 (by rw [hcs]; rfl))).mono ?_⟩
          rintro e Yn ⟨rfl, v1, hRn, hbn, hgn⟩
          exact hK _ _ (s12 Yn v1 hRn hbn (grown_both HY0.out.2.2 hgn))
      refine wpAnyIn_ready (rs := [0, 1]) (by rw [← Hops.out]; kernel_rfl) (by simp) ?_
      refine AllReadyIn.cons p0 (fun K hK => ?_) (AllReadyIn.cons p1 (fun K hK => ?_) AllReadyIn.nil)
      · simp only [List.setIfInBounds_toArray, List.set_cons_zero, List.set_cons_succ] at hK
        go_simp
        refine hK _ _ ?_
        clear hK K
        refine wpAnyIn_ready (rs := [1]) (by rw [← Hops.out]; kernel_rfl) (by simp) ?_
        refine AllReadyIn.cons p1 (fun K hK => ?_) AllReadyIn.nil
        simp only [List.setIfInBounds_toArray, List.set_cons_zero, List.set_cons_succ] at hK
        go_simp
        exact hK _ _ s01
      · simp only [List.setIfInBounds_toArray, List.set_cons_zero, List.set_cons_succ] at hK
        go_simp
        exact hK _ _ s1
end Go.Proofs.YtenepkgjdoddgaaGreatDoor
