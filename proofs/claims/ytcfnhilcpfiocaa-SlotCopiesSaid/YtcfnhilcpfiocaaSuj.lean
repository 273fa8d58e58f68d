/- slot's laws: is. -/
import Derived.Test.YtcfnhilcpfiocaaSui
import Derived.Sort.QuietTacIn
import Derived.Lib.MinMax
import Derived.Deep.RegionHeld3
import Derived.RegionTactic
import Derived.LoopTactic
namespace Go.Proofs.Ytcfnhilcpfiocaa
open Go.RowKit Go.Shelf Go.ChangeMaps Go.MapKept
attribute [local go_sem] Oper.semAt_some
theorem nodup_sub {xs : List Nat} : ∀ {ks : List Nat}, xs.Nodup → (∀ x ∈ xs, x ∈ ks) → xs.length ≤ ks.length := by
  induction xs with
  | nil => intro ks _ _; simp
  | cons x xs ih =>
    intro ks hn hs
    obtain ⟨h1, h2⟩ := List.nodup_cons.1 hn
    have hm := hs x (by simp)
    have := ih (ks := ks.erase x) h2 (fun y hy => (List.mem_erase_of_ne (fun e => h1 (by rw [← e]; exact hy))).2 (hs y (by simp [hy])))
    rw [List.length_erase_of_mem hm] at this
    have := List.length_pos_of_mem hm
    simp
    omega
theorem Rel.many {fv fw : Nat → Option (Nat × Nat)} {l : List Rw} (h : Rel fv fw l) (hl : l.length ≤ 1000) (xs : List Nat) (hn : xs.Nodup) (hx : ∀ x ∈ xs, x < MM ∧ ovr fv fw x ≠ none) : xs.length ≤ 1000000 := by
  have h1 := nodup_sub hn (fun x hm => (h.rise.2.1 x).2 (hx x hm).2)
  rw [List.length_map] at h1
  have h2 : (allL l).length ≤ l.length := by unfold allL; exact List.length_filter_le _ _
  omega
/-- Rows that are read, their block below q. -/
def RwS (q : Nat) (X : World) (v : Value) (l : List Rw) : Prop := ∀ k r, l[k]? = some r → ∃ b o c, v = .slice (some ⟨b, o, none⟩) l.length c ∧ b < q ∧ b < X.heap.size ∧ ∀ j, j < 14 → X.cell? ⟨b, o + k * 14 + j, none⟩ = (rvA r)[j]?
theorem RwS.of {X : World} {b : Nat} {v : Value} {l : List Rw} (h : OwR X b v l) : RwS X.heap.size X v l := fun k r hk => by
  obtain ⟨b, o, c, e, h1, h2⟩ := h.at hk
  exact ⟨b, o, c, e, h1, h1, h2⟩
theorem RwS.kept {q : Nat} {X Y : World} {v : Value} {l : List Rw} (h : RwS q X v l) (hs : X.heap.size ≤ Y.heap.size) (hk : ∀ b, b < q → b < X.heap.size → Y.heap[b]? = X.heap[b]?) : RwS q Y v l := fun k r hr => by
  obtain ⟨b, o, c, e, h1, h2, h3⟩ := h k r hr
  exact ⟨b, o, c, e, h1, Nat.lt_of_lt_of_le h2 hs, fun j hj => (cell_heap (p := ⟨b, o + k * 14 + j, none⟩) (hk b h1 h2)).trans (h3 j hj)⟩
theorem RwS.up {q q2 : Nat} {X : World} {v : Value} {l : List Rw} (h : RwS q X v l) (hq : q ≤ q2) : RwS q2 X v l := fun k r hr => by
  obtain ⟨b, o, c, e, h1, h2⟩ := h k r hr
  exact ⟨b, o, c, e, by omega, h2⟩
/-- What stands in the boxes of is. -/
def IsB (h g bv bw gL gN q many : Nat) (k : Int) (vA r : Value) (lA l : List Rw) (fv fw : Nat → Option (Nat × Nat)) (w : World) (m : Nat) (X : World) : Prop :=
  (Blk X h 31 #[r] ∧ Blk X (h + 1) 3 #[.int .i64 k] ∧ Blk X (h + 2) 4 #[.bool false] ∧ Blk X gL 29 #[vA] ∧ Blk X gN 3 #[.int .i64 (m : Nat)]) ∧ (RwS q X vA lA ∧ RwS q X r l) ∧ SlB X g bv bw fv fw many ∧ Below h w X
theorem IsB.kept {h g bv bw gL gN q many r0 m : Nat} {k : Int} {vA r : Value} {lA l : List Rw} {fv fw : Nat → Option (Nat × Nat)} {w X Y : World} {row : Option Nat} (hi : IsB h g bv bw gL gN q many k vA r lA l fv fw w m X) (hg : X.grownBy Y row) (h1 : h + 2 < r0 ∧ g < r0 ∧ bv < r0 ∧ bw < r0 ∧ gL < r0 ∧ gN < r0 ∧ q ≤ r0) (hs : h ≤ w.heap.size) (hr : ∀ x, row = some x → r0 ≤ x) : IsB h g bv bw gL gN q many k vA r lA l fv fw w m Y := by
  obtain ⟨⟨a0, a1, a2, a3, a4⟩, ⟨a5, a6⟩, a7, a8⟩ := hi
  have hk : ∀ i, i < r0 → i < X.heap.size → Y.heap[i]? = X.heap[i]? := fun i hi hx => hg.block i hx (fun e => by have := hr i e.symm; omega)
  have hne : ∀ i, i < r0 → ¬ (some i = row) := fun i hi e => by have := hr i e.symm; omega
  refine ⟨⟨(hk _ (by omega) a0.lt).trans a0, (hk _ (by omega) a1.lt).trans a1, (hk _ (by omega) a2.lt).trans a2, (hk _ (by omega) a3.lt).trans a3, (hk _ (by omega) a4.lt).trans a4⟩, ⟨a5.kept hg.size (fun b hb hx => hk b (by omega) hx), a6.kept hg.size (fun b hb hx => hk b (by omega) hx)⟩, a7.chg (Chg.of hg) (hne _ (by omega)) (hne _ (by omega)) (hne _ (by omega)), a8.grown hg (Nat.le_trans hs a8.size) (fun x e => by have := hr x e; omega)⟩
theorem IsB.count {h g bv bw gL gN q many m : Nat} {k : Int} {vA r : Value} {lA l : List Rw} {fv fw : Nat → Option (Nat × Nat)} {w X : World} (hi : IsB h g bv bw gL gN q many k vA r lA l fv fw w m X) (h1 : h + 2 < gN ∧ g < gN ∧ bv < gN ∧ bw < gN ∧ gL < gN ∧ q ≤ gN) (hs : h ≤ w.heap.size) :
    IsB h g bv bw gL gN q many k vA r lA l fv fw w (m + 1) (X.setCell ⟨gN, 0, none⟩ (.int .i64 ((m : Int) + 1))) := by
  obtain ⟨⟨a0, a1, a2, a3, a4⟩, ⟨a5, a6⟩, a7, a8⟩ := hi
  obtain ⟨Y, hY⟩ : ∃ Y, X.setCell ⟨gN, 0, none⟩ (.int .i64 ((m : Int) + 1)) = Y := ⟨_, rfl⟩
  have hg : X.grownBy Y (some gN) := by rw [← hY]; exact grown_set' (grown_refl X gN) 0 _
  have k4 : Blk Y gN 3 #[.int .i64 ((m : Int) + 1)] := by rw [← hY]; exact heap_setCell_same X gN 0 _ _ _ a4
  rw [hY]
  have hk : ∀ i, i < gN → i < X.heap.size → Y.heap[i]? = X.heap[i]? := fun i hi hx => hg.block i hx (fun e => by have := Option.some.inj e; omega)
  have hne : ∀ i, i < gN → ¬ (some i = some gN) := fun i hi e => by have := Option.some.inj e; omega
  exact ⟨⟨(hk _ (by omega) a0.lt).trans a0, (hk _ (by omega) a1.lt).trans a1, (hk _ (by omega) a2.lt).trans a2, (hk _ (by omega) a3.lt).trans a3, k4⟩, ⟨a5.kept hg.size (fun b hb hx => hk b (by omega) hx), a6.kept hg.size (fun b hb hx => hk b (by omega) hx)⟩, a7.chg (Chg.of hg) (hne _ (by omega)) (hne _ (by omega)) (hne _ (by omega)), a8.grown hg (Nat.le_trans hs a8.size) (fun x e => by have := Option.some.inj e; omega)⟩
/-- A drawn region in a round that reads: walked once. -/
theorem wpIn_region_quiet_round {n : Nat} {P : Program} {id : Nat} {Q : Exit → Act → World → Prop} {a : Act} {w : World} {l : List Oper} (l2 : Nat) (hm : P.follows .mixedOrders = true)
    (hnd : (l.toArray.all fun o => match o.op with | .defer _ => false | _ => true) = true) (hB : Region.lexB .any l.toArray = true)
    (h : wpQuietIn Fence.wide n P l.toArray (fun w' => ∃ n, w' = w.drewN n) (fun a' => ∀ w', (∃ n, w' = w.drewN n) → Q .normal a' w') l a) : (Code.region id l.toArray true).wpIn (Fence.wide.inRound l2) n P Q a w := by
  simp only [Region.lexB, Bool.and_eq_true] at hB
  refine wpIn_region_round l2 hm hnd (wpAnyIn_of_quiet (C := fun w' => ∃ n, w' = w.drewN n) (Q := fun a' => ∀ w', (∃ n, w' = w.drewN n) → Q .normal a' w') rfl (fun _ w' hw' h => h w' hw') _ _ _ _ ⟨1, rfl⟩ ?_)
  have := wpAnyQIn_lex (F := Fence.wide) (n := n) (C := fun w' => ∃ n, w' = w.drewN n) (md := .any) hB.1 l 0 (Array.replicate l.toArray.size false) a (by simp) (by simpa using hB.2) (by simpa using h)
  simpa using this
theorem many_done (N : Nat) (n : Int) (h : N = 0 ∨ (N : Int) < n) : min (N : Int) (max 1 n) = N := by omega
theorem many_left (N k : Nat) (n : Int) (h1 : k ≤ N) (h0 : 0 < k) (h2 : n ≤ k) (h3 : k = 1 ∨ (k : Int) - 1 < n) : min (N : Int) (max 1 n) = k := by omega
theorem ex_frameI {T : Array Value} {D : List Deferred} {F : (Nat → Value) → Act} (h : ({ tmps := T, defers := D } : Act) = F (fun i => T.getD i .nilFunc)) : ∃ y, ({ tmps := T, defers := D } : Act) = F y := ⟨_, h⟩
theorem enters_all (args : Array Value) (w : World) : (callFunc 32 args).run Try.prog w = .ok (.enter 32 args) w := by kernel_rfl
set_option maxRecDepth 100000 in
set_option maxHeartbeats 8000000 in
theorem is_any (D : Nat) (p r : Value) (l : List Rw) (k : Int) (w : World) (h : StW D w p r l) (hll : l.length ≤ 1000) :
    Calls Try.prog 9 #[p, .agg #[r], .int .i64 k] w fun e w' => e = .returned (.bool true) ∧ Below w.heap.size w w' := by
  obtain ⟨g, bv, bw, many, fv, fw, rfl, hs, ho, hrel, hcnt, _, _, _⟩ := h
  obtain ⟨X, hX⟩ : ∃ X, ((w.alloc (.cells #[r] 31)).alloc (.cells #[.int .i64 k] 3)).alloc (.cells #[.bool false] 4) = X := ⟨_, rfl⟩
  have hB : Below w.heap.size w X := by rw [← hX]; exact balloc (balloc (balloc (Below.refl _ _) _) _) _
  have b0 : Blk X w.heap.size 31 #[r] := by rw [← hX]; exact ((Blk.new _ _ _).alloc _).alloc _
  have b1 : Blk X (w.heap.size + 1) 3 #[.int .i64 k] := by rw [← hX]; exact (Blk.newS _ _ _ _).alloc _
  have b2 : Blk X (w.heap.size + 2) 4 #[.bool false] := by
    rw [← hX]
    have h := Blk.newS (w.alloc (.cells #[r] 31)) (.cells #[.int .i64 k] 3) 4 #[.bool false]
    rwa [World.size_alloc] at h
  have HX := Lib.hid (And.intro hX (And.intro hB (And.intro b0 (And.intro b1 b2))))
  have HS := Lib.hid (And.intro (hs.keep hB) (And.intro (ho.keep hB) (And.intro hrel hcnt)))
  have HG := Lib.hid (show g < w.heap.size ∧ bv < w.heap.size ∧ bw < w.heap.size from ⟨hs.1.lt, hs.2.1.lt, hs.2.2.1.lt⟩)
  have HR := Lib.hid (rall_any D r l X (ho.keep hB) hll)
  have hlen := hrel.len hcnt
  have hml : many ≤ 1000 := by rw [← hlen]; unfold allL; exact Nat.le_trans (List.length_filter_le _ _) hll
  have HLN := Lib.hid (And.intro hlen hml)
  have HLL := Lib.hid hll
  have hnil : ∀ (p q : Value) w, (binOp .eql 46 (.func (.func 32) #[] #[p, q]) .nilFunc).run Try.prog w = .ok (.bool false) w := fun _ _ _ => by kernel_rfl
  have c0 : X.cell? ⟨w.heap.size, 0, none⟩ = some r := cell_of_row _ _ 0 _ _ _ b0
  clear hX hB b0 b1 b2 hs ho hrel hcnt hlen hml hll
  refine (callsIn_wide (n := 20)).1 ?_
  refine callsIn_of_wp_marks Try.func9 rfl trivial ?_ rfl
  simp only [Try.ntmps9, List.size_toArray, List.length_cons, List.length_nil, Nat.reduceAdd, Nat.reduceSub, Array.replicate_succ, Array.replicate_zero, List.push_toArray, List.append_toArray, List.nil_append, List.cons_append]
  refine (wpIn_wide (n := 20)).2 ?_
  go_upto_region 1 with fail
  rw [HX.out.1]
  go_upto_region 3 with (first
    | (go_at_call 22; refine (HR.out).mono ?_; rintro e z1 ⟨u, rfl, hO, hb⟩; obtain ⟨yu, cu, hu⟩ := hO.is; rw [HLN.out.1] at hu; subst hu; have H1 := Lib.hid (And.intro hO hb); clear hO hb; have HY := Lib.hid (fun Z (hZ : Below X.heap.size X Z) => sall_any g bv bw many fv fw Z (HS.out.1.keep hZ) (HS.out.2.2.1.many HLL.out)))
    | (go_at_call 14; refine (HY.out _ (balloc H1.out.2 _)).mono ?_; rintro e z2 ⟨gk, gm, ks, rfl, hA, hp1, hp2, hb⟩; have H2 := Lib.hid (And.intro hA (And.intro hp1 (And.intro hp2 hb))); clear hA hp1 hp2 hb)
    | fail)
  have hX2 : Below X.heap.size X z2 := bstep (balloc H1.out.2 _) H2.out.2.2.2
  have kL : Blk z2 z1.heap.size 29 #[.slice yu many cu] := (Blk.new z1 _ _).keep H2.out.2.2.2
  have cL : z2.cell? ⟨z1.heap.size, 0, none⟩ = some (.slice yu many cu) := cell_of_row _ _ 0 _ _ _ kL
  have hS2 := HS.out.1.keep hX2
  have HLe := Lib.hid (fun n => (len_any g bv bw many fv fw (z2.drewN n) (hS2.keep (below_drewN (Below.refl _ _) n))).mono fun e w' h => (⟨h.1, h.2.symm⟩ : e = .returned (.int .i64 (many : Nat)) ∧ w' = z2.drewN n))
  have q0 : ((many : Int) != (many : Int)) = false := by simp
  have HK := Lib.hid (And.intro hX2 (And.intro kL hS2))
  clear hX2 kL hS2 c0
  go_quiet ((go_at_call 18; refine (HLe.out _).mono ?_; rintro e w' ⟨rfl, rfl⟩; exact ⟨rfl, _, rfl⟩))
  obtain ⟨V, hV⟩ : ∃ V, z2.drewN nq = V := ⟨_, rfl⟩
  obtain ⟨gL, hgL⟩ : ∃ g, z1.heap.size = g := ⟨_, rfl⟩
  obtain ⟨vL, hvL⟩ : ∃ v, Value.slice yu many cu = v := ⟨_, rfl⟩
  have hzV : Below z2.heap.size z2 V := by rw [← hV]; exact below_drewN (Below.refl _ _) nq
  have hXs := HX.out.2.1.size
  have hzs := H1.out.2.size
  have hzl : gL < z2.heap.size := by rw [← hgL]; exact HK.out.2.1.lt
  have h2l := HX.out.2.2.2.2.lt
  have hXV : Below X.heap.size X V := bstep HK.out.1 hzV
  have hRA : RwS V.heap.size V vL (allL l) := by
    have h := RwS.of (H1.out.1)
    rw [hvL] at h
    exact (h.up (q2 := V.heap.size) (by have := (bstep (balloc (Below.refl z1.heap.size z1) _) H2.out.2.2.2).size; have := hzV.size; omega)).kept (by have := (bstep (balloc (Below.refl z1.heap.size z1) _) H2.out.2.2.2).size; have := hzV.size; omega) (fun b _ hb => (hzV.block b (Nat.lt_of_lt_of_le hb (bstep (balloc (Below.refl z1.heap.size z1) _) H2.out.2.2.2).size)).trans ((bstep (balloc (Below.refl z1.heap.size z1) _) H2.out.2.2.2).block b hb))
  have hRR : RwS V.heap.size V r l := ((RwS.of HS.out.2.1).up hXV.size).kept hXV.size (fun b _ hb => hXV.block b hb)
  have HV := Lib.hid (And.intro (HX.out.2.2.1.keep hXV) (And.intro (HX.out.2.2.2.1.keep hXV) (And.intro (HX.out.2.2.2.2.keep hXV) (And.intro (hgL ▸ HK.out.2.1.keep hzV : Blk V gL 29 #[.slice yu many cu]) (And.intro hRA (And.intro hRR (And.intro (HK.out.2.2.keep hzV) (HX.out.2.1.trans (hXV.mono hXs)))))))))
  rw [hV, hgL]
  go_wp2_with fail
  obtain ⟨gN, hgN⟩ : ∃ g, V.heap.size = g := ⟨_, rfl⟩
  obtain ⟨Z0, hZ0⟩ : ∃ Z, V.alloc (.cells #[.int .i64 0] 3) = Z := ⟨_, rfl⟩
  have hVZ : Below V.heap.size V Z0 := by rw [← hZ0]; exact balloc (Below.refl _ _) _
  have kN : Blk Z0 gN 3 #[.int .i64 (0 : Nat)] := by rw [← hZ0, ← hgN]; exact Blk.new V _ _
  have hsZ : Z0.heap.size = gN + 1 := by rw [← hZ0, World.size_alloc, hgN]
  have hks : ks = (allL l).map (·.1) := rise_unique H2.out.1.2 HS.out.2.2.1.rise
  have HI := Lib.hid (show IsB w.heap.size g bv bw gL gN gN many k vL r (allL l) l fv fw w 0 Z0 ∧ (0 = 0 ∨ ((0 : Nat) : Int) < k) from by
    obtain ⟨a0, a1, a2, a3, a4, a5, a6, a7⟩ := HV.out
    rw [← hgN]
    exact ⟨⟨⟨a0.keep hVZ, a1.keep hVZ, a2.keep hVZ, (hvL ▸ a3.keep hVZ), (hgN ▸ kN)⟩, ⟨a4.kept hVZ.size (fun b _ hb => hVZ.block b hb), a5.kept hVZ.size (fun b _ hb => hVZ.block b hb)⟩, a6.keep hVZ, a7.trans (hVZ.mono a7.size)⟩, .inl rfl⟩)
  have HG := Lib.hid (show w.heap.size + 2 < gN ∧ g < gN ∧ bv < gN ∧ bw < gN ∧ gL < gN ∧ Z0.heap.size = gN + 1 from by
    have := HG.out
    have := hzV.size
    have := hXV.size
    exact ⟨by omega, by omega, by omega, by omega, by omega, hsZ⟩)
  have HZ := Lib.hid (And.intro (bstep hzV hVZ) (show z2.heap.size ≤ gN from by rw [← hgN]; exact hzV.size))
  rw [hgN, hZ0]
  subst hks
  have HA := Lib.hid H2.out.1
  have HVL := Lib.hid hvL
  clear hvL hZ0 hVZ kN hsZ hV hgL hzV hXs hzs hzl h2l hXV hRA hRR HV hgN cL HLe q0 HK HX H2 HY HR hnil
  refine (wpIn_wide (n := 20)).1 ?_
  refine wpIn_rangeV (n := 20) (by omega) (gf := 32) (lb := #[.pointer (some ⟨gk, 0, none⟩), .pointer (some ⟨gm, 0, none⟩)]) rfl enters_all
    (all_seq (20 - 1) (by omega) gk gm gN _ (ovr fv fw) ((allL l).map (·.1)) z2 Z0 HA.out HZ.out.2 (by have := HG.out; omega) HZ.out.1 (by rw [List.length_map]; have := HLN.out; omega)) (Below.refl _ _) (by have := HG.out; omega) (fun k h => h.elim) (fun _ => rfl)
    (fun pre X => IsB w.heap.size g bv bw gL gN gN many k vL r (allL l) l fv fw w pre.length X ∧ (pre.length = 0 ∨ (pre.length : Int) < k))
    (fun c pre X => IsB w.heap.size g bv bw gL gN gN many k vL r (allL l) l fv fw w pre.length X ∧ (c = .exit 0 ∧ 0 < pre.length ∧ pre.length ≤ many ∧ k ≤ pre.length ∧ (pre.length = 1 ∨ (pre.length : Int) - 1 < k)))
    (fun pre X Y row h hw hr => ⟨h.1.kept (r0 := gN + 1) hw (by have := HG.out; omega) (Nat.le_refl _) (fun x e => by have := HG.out; rcases hr x e with h | h | h; exact h.elim; omega; omega), h.2⟩)
    (fun c pre X Y row h hw hr => ⟨h.1.kept (r0 := gN + 1) hw (by have := HG.out; omega) (Nat.le_refl _) (fun x e => by have := HG.out; rcases hr x e with h | h | h; exact h.elim; omega; omega), h.2⟩)
    (fun pre X h => trivial) HI.out
    (fun x a' Y => ∃ (gK gV : Nat), (∃ y : Nat → Value, a' = { tmps := #[.pointer (some ⟨g, 0, none⟩), y 1, y 2, y 3, .pointer (some ⟨w.heap.size, 0, none⟩), .pointer (some ⟨w.heap.size + 1, 0, none⟩), .pointer (some ⟨w.heap.size + 2, 0, none⟩), .pointer (some ⟨gL, 0, none⟩), .func (.func 32) #[] #[.pointer (some ⟨gk, 0, none⟩), .pointer (some ⟨gm, 0, none⟩)], .pointer (some ⟨gN, 0, none⟩), .pointer (some ⟨gK, 0, none⟩), .pointer (some ⟨gV, 0, none⟩), y 12, y 13, y 14, y 15, y 16, y 17, y 18, y 19, y 20, y 21, y 22, y 23, y 24, y 25, y 26, y 27, y 28, y 29, y 30, y 31, y 32, y 33, y 34, y 35, y 36, y 37, y 38, y 39, y 40, y 41, y 42, y 43, y 44, y 45, y 46, y 47, y 48, y 49, y 50, y 51, y 52, y 53, y 54, y 55, y 56, y 57, y 58, y 59, y 60, y 61, y 62, y 63, y 64, y 65, y 66, y 67, y 68, y 69, y 70, y 71, y 72, y 73, y 74, y 75, y 76, y 77, y 78, y 79, y 80, y 81, y 82, y 83, y 84, y 85, y 86, y 87, y 88, y 89, y 90, y 91, y 92, y 93, y 94, y 95, y 96, y 97, y 98, y 99, y 100, y 101], defers := [] }) ∧ Blk Y gK 25 (Wc x) ∧ Blk Y gV 36 (vA (lk (ovr fv fw) x).1 (lk (ovr fv fw) x).2) ∧ gN + 2 < gK ∧ gN + 2 < gV)
    (fun x a' s X Y row hs hw hr => by
      obtain ⟨gK, gV, e, k1, k2, h1, h2⟩ := hs
      have hz := HG.out.2.2.2.2.2
      exact ⟨gK, gV, e, k1.kept hw (fun e => by have := hr _ e.symm; omega), k2.kept hw (fun e => by have := hr _ e.symm; omega), h1, h2⟩)
    ?assign ?body ?done ?stop
  case assign =>
    rintro l2 pre x X K _ hlt hi hK
    gi_wp2_with fail
    obtain ⟨Y, hY⟩ : ∃ Y, (X.alloc (.cells (Wc x) 25)).alloc (.cells (vA (lk (ovr fv fw) x).1 (lk (ovr fv fw) x).2) 36) = Y := ⟨_, rfl⟩
    have hXY : Below X.heap.size X Y := by rw [← hY]; exact balloc (balloc (Below.refl _ _) _) _
    have hz := HG.out.2.2.2.2.2
    rw [hY]
    exact hK _ _ (KeptM.new hXY) (hXY.mono (by omega)) ⟨hi.1.kept (r0 := gN + 1) (row := none) (grown_new hXY) (by have := HG.out; omega) (Nat.le_refl _) (fun _ e => by cases e), hi.2⟩ (by
      refine ⟨X.heap.size, X.heap.size + 1, ex_frameI (by rfl), ?_⟩
      exact ⟨by rw [← hY]; exact (Blk.new X _ _).alloc _, by rw [← hY]; exact Blk.newS X _ _ _, by omega, by omega⟩)
  case body =>
    rintro l2 pre x a' X hl2 ⟨i, hix, hpre⟩ hlo ⟨hi, hk⟩ ⟨gK, gV, ⟨y, rfl⟩, kK, kV, hgK, hgV⟩
    obtain ⟨row, hrow, rfl⟩ : ∃ row, (allL l)[i]? = some row ∧ row.1 = x := by
      rw [List.getElem?_map] at hix
      obtain ⟨row, h1, h2⟩ := Option.map_eq_some_iff.1 hix
      exact ⟨row, h1, h2⟩
    obtain ⟨hil, _⟩ := List.getElem?_eq_some_iff.1 hrow
    have hpl : pre.length = i := by rw [hpre, List.length_take, List.length_map]; omega
    have hval := HS.out.2.2.1.all_at hrow
    have hok : row.1 < MM := HA.out.2.2.2 _ (List.mem_map_of_mem (List.mem_of_getElem? hrow))
    have hokv : okP row.2.1 := (H1.out.1.1 row (List.mem_of_getElem? hrow)).2.1
    rw [← hval] at kV
    rw [HLN.out.1] at hil
    have hsn : (pre ++ [row.1]).length = i + 1 := by rw [List.length_append, hpl]; rfl
    obtain ⟨b, o, c, e9, hb1, hb2, hcl⟩ := hi.2.1.1 i row hrow
    rw [HLN.out.1] at e9
    rw [hpl] at hi hk
    have cN : X.cell? ⟨gN, 0, none⟩ = some (.int .i64 (i : Nat)) := cell_of_row X _ 0 _ _ _ hi.1.2.2.2.2
    have cL : X.cell? ⟨gL, 0, none⟩ = some (.slice (some ⟨b, o, none⟩) many c) := by rw [← e9]; exact cell_of_row X _ 0 _ _ _ hi.1.2.2.2.1
    have hilI : (i : Int) < (many : Int) := by omega
    have hilJ : ¬ (many : Int) ≤ (i : Int) := by omega
    have hdl : decide ((many : Int) ≤ (i : Int)) = false := decide_eq_false (by omega)
    have hdn : decide (many ≤ i) = false := decide_eq_false (by omega)
    have q0 : X.cell? ⟨b, o + i * 14, none⟩ = some (.int .u64 (lb row.1 0)) := hcl 0 (by omega)
    have q1 : X.cell? ⟨b, o + i * 14 + 1, none⟩ = some (.int .u64 (lb row.1 1)) := hcl 1 (by omega)
    have q2 : X.cell? ⟨b, o + i * 14 + 2, none⟩ = some (.int .u64 (lb row.1 2)) := hcl 2 (by omega)
    have q3 : X.cell? ⟨b, o + i * 14 + 3, none⟩ = some (.int .u64 (lb row.1 3)) := hcl 3 (by omega)
    have q4 : X.cell? ⟨b, o + i * 14 + 4, none⟩ = some (.int .u64 (lb row.2.1.1 0)) := hcl 4 (by omega)
    have q5 : X.cell? ⟨b, o + i * 14 + 5, none⟩ = some (.int .u64 (lb row.2.1.1 1)) := hcl 5 (by omega)
    have q6 : X.cell? ⟨b, o + i * 14 + 6, none⟩ = some (.int .u64 (lb row.2.1.1 2)) := hcl 6 (by omega)
    have q7 : X.cell? ⟨b, o + i * 14 + 7, none⟩ = some (.int .u64 (lb row.2.1.1 3)) := hcl 7 (by omega)
    have q8 : X.cell? ⟨b, o + i * 14 + 8, none⟩ = some (.int .u64 (row.2.1.2 : Nat)) := hcl 8 (by omega)
    have x0 : X.cell? ⟨gK, 0, none⟩ = some (.int .u64 (lb row.1 0)) := cell_of_row X _ 0 _ _ _ kK
    have x1 : X.cell? ⟨gK, 1, none⟩ = some (.int .u64 (lb row.1 1)) := cell_of_row X _ 1 _ _ _ kK
    have x2 : X.cell? ⟨gK, 2, none⟩ = some (.int .u64 (lb row.1 2)) := cell_of_row X _ 2 _ _ _ kK
    have x3 : X.cell? ⟨gK, 3, none⟩ = some (.int .u64 (lb row.1 3)) := cell_of_row X _ 3 _ _ _ kK
    have v0 : X.cell? ⟨gV, 0, none⟩ = some (.int .u64 (lb row.2.1.1 0)) := cell_of_row X _ 0 _ _ _ kV
    have v1 : X.cell? ⟨gV, 1, none⟩ = some (.int .u64 (lb row.2.1.1 1)) := cell_of_row X _ 1 _ _ _ kV
    have v2 : X.cell? ⟨gV, 2, none⟩ = some (.int .u64 (lb row.2.1.1 2)) := cell_of_row X _ 2 _ _ _ kV
    have v3 : X.cell? ⟨gV, 3, none⟩ = some (.int .u64 (lb row.2.1.1 3)) := cell_of_row X _ 3 _ _ _ kV
    have v4 : X.cell? ⟨gV, 4, none⟩ = some (.int .u64 (row.2.1.2 : Nat)) := cell_of_row X _ 4 _ _ _ kV
    have nw := fun X => neqWR row.1 row.1 hok hok X
    have nv := fun X => neqVal_R row.2.1 row.2.1 hokv hokv X
    rw [show (!(row.1 == row.1)) = false by simp] at nw
    rw [show (!(decide (row.2.1 = row.2.1))) = false by simp] at nv
    have HBD := Lib.hid (And.intro hi (And.intro hk (And.intro hpl hsn)))
    have HIL := Lib.hid hil
    clear hix hi hk hl2 hpl hsn hrow hval hok hokv hil kK kV hcl e9 hb1 hb2 hlo hpre hgK hgV
    gi_wp2_with fail
    refine wpIn_region_quiet_round l2 (by kernel_rfl) (by kernel_rfl) (by kernel_rfl) ?_
    iterate 22 (quiet_step_in (fail))
    refine wpQuietIn_nil ?_
    intro _ hw'
    obtain ⟨nq2, hw''⟩ := hw'
    subst hw''
    obtain ⟨hI, hk, hpl, hsn⟩ := HBD.out
    have hil := HIL.out
    have hml := HLN.out.2
    obtain ⟨Xq, hXq⟩ : ∃ Xq, X.drewN nq2 = Xq := ⟨_, rfl⟩
    have hGq : X.grownBy Xq none := by rw [← hXq]; exact ⟨rfl, rfl, rfl, Nat.le_refl _, fun _ _ _ => rfl⟩
    have hBX : Below gN X Xq := by rw [← hXq]; exact below_drewN (Below.refl _ X) nq2
    have hIq := hI.kept (r0 := gN + 1) hGq (by have := HG.out; omega) (Nat.le_refl _) (fun _ e => by cases e)
    have hIz := hIq.count (by have := HG.out; omega) (Nat.le_refl _)
    have hKq : KeptM (fun k => noMs k ∨ k = Z0.heap.size ∨ k = Z0.heap.size + 1) X (Xq.setCell ⟨gN, 0, none⟩ (.int .i64 ((i : Int) + 1))) := (KeptM.grown hGq (fun r e => by cases e)).trans (KeptM.grown (grown_set' (grown_refl Xq gN) 0 _) (fun r e h => by cases e; have := HG.out; rcases h with h | h | h; exact h.elim; omega; omega))
    have hBz : Below gN X (Xq.setCell ⟨gN, 0, none⟩ (.int .i64 ((i : Int) + 1))) := hBX.setCell (p := ⟨gN, 0, none⟩) (by simp) _
    rw [hXq]
    have cN1 : Xq.cell? ⟨gN, 0, none⟩ = some (.int .i64 (i : Nat)) := cell_of_row Xq _ 0 _ _ _ hIq.1.2.2.2.2
    have fN := frozen_of_row Xq _ 0 _ _ hIq.1.2.2.2.2
    have cN2 : (Xq.setCell ⟨gN, 0, none⟩ (.int .i64 ((i : Int) + 1))).cell? ⟨gN, 0, none⟩ = some (.int .i64 ((i : Int) + 1)) := cell_of_row _ _ 0 _ _ _ hIz.1.2.2.2.2
    have cK2 : (Xq.setCell ⟨gN, 0, none⟩ (.int .i64 ((i : Int) + 1))).cell? ⟨w.heap.size + 1, 0, none⟩ = some (.int .i64 k) := cell_of_row _ _ 0 _ _ _ hIz.1.2.1
    have hwp : IntKind.i64.wrap ((i : Int) + 1) = (i : Int) + 1 := IntWalk.i64_in _ (by omega)
    have hlen : (pre ++ [row.1]).length = 1 ∨ (((pre ++ [row.1]).length : Nat) : Int) - 1 < k := by rw [hsn]; rcases hk with h | h; exact .inl (by omega); exact .inr (by omega)
    have hpos : 0 < (pre ++ [row.1]).length ∧ (pre ++ [row.1]).length ≤ many := by rw [hsn]; omega
    rw [← hsn] at hIz
    have HE := Lib.hid (And.intro hKq (And.intro hBz (And.intro hIz (And.intro hlen (And.intro hpos hsn)))))
    clear hI hk hpl hsn hXq hGq hBX hIq hIz hKq hBz hlen hpos q0 q1 q2 q3 q4 q5 q6 q7 q8 x0 x1 x2 x3 v0 v1 v2 v3 v4 nw nv cN cL HBD
    by_cases hlast : k ≤ (i : Int) + 1
    · have HKL := Lib.hid hlast
      gi_wp2_with fail
      exact ⟨HE.out.1, HE.out.2.2.1, rfl, HE.out.2.2.2.2.1.1, HE.out.2.2.2.2.1.2, by rw [HE.out.2.2.2.2.2]; have := HKL.out; omega, HE.out.2.2.2.1⟩
    · have HKL := Lib.hid hlast
      gi_wp2_with fail
      exact ⟨HE.out.1, HE.out.2.1, HE.out.2.2.1, .inr (by rw [HE.out.2.2.2.2.2]; have := HKL.out; omega)⟩
  case done =>
    rintro Dd xs X1 hD rfl ⟨hI0, hk⟩ hK
    rw [List.length_map, HLN.out.1] at hI0 hk
    have hm0 := many_done many k hk
    obtain ⟨n, hn⟩ : ∃ n, many = n := ⟨_, rfl⟩
    have hmin : min (many : Int) (max 1 k) = (n : Int) := by rw [← hn]; exact hm0
    have hI : IsB w.heap.size g bv bw gL gN gN many k vL r (allL l) l fv fw w n X1 := by rw [← hn]; exact hI0
    clear hk hn hI0 hm0
    have HT := Lib.hid (And.intro hD hmin)
    have HI1 := Lib.hid (show IsB w.heap.size g bv bw gL gN gN many k vL r (allL l) l fv fw w n X1 ∧ X1.heap[Dd]? = some (.deferred (some [])) from ⟨hI, hK⟩)
    obtain ⟨N, hN⟩ : ∃ N, l.length = N := ⟨_, rfl⟩
    have HN := Lib.hid (And.intro hN HLL.out)
    clear hI hK hmin hD HI
    go_wp2_with fail
    go_loopw [12] (fun i wr => ∃ k2 : Nat, k2 ≤ N ∧ i = .int .i64 k2 ∧ IsB w.heap.size g bv bw gL gN gN many k vL r (allL l) l fv fw w n wr ∧ wr.heap[Dd]? = some (.deferred (some []))) (fun i _ => N - (intOf i).toNat)
    case atStart => exact ⟨0, Nat.zero_le _, rfl, HI1.out⟩
    case round =>
      obtain ⟨k2, hk2, rfl, hI, hK⟩ := hrel
      obtain ⟨xr, cr, hr⟩ := HS.out.2.1.is
      rw [HN.out.1] at hr
      have cR : ∀ Z, Below wr.heap.size wr Z → Z.cell? ⟨w.heap.size, 0, none⟩ = some (.slice xr N cr) := fun Z h => by rw [← hr]; exact cell_of_row Z _ 0 _ _ _ (hI.1.1.keep h)
      have cR0 := cR wr (Below.refl _ _)
      by_cases hlt : k2 < N
      · have hltI : (k2 : Int) < (N : Int) := by omega
        obtain ⟨row, hrow⟩ : ∃ row, l[k2]? = some row := ⟨_, List.getElem?_eq_getElem (by rw [HN.out.1]; exact hlt)⟩
        have hmem := List.mem_of_getElem? hrow
        obtain ⟨b, o, c, e9, hb1, hb2, hcl⟩ := hI.2.1.2 k2 row hrow
        rw [HN.out.1, hr] at e9
        injection e9 with e1 e2 e3
        subst e1
        have hrl := HS.out.2.2.1
        have hokr := (hrl.2.1 row hmem).1
        have hQ := hrl.2.2.1 row.1
        rw [rowN_Q, rowQ_of_mem hrl.1 hmem] at hQ
        have hv1 : lk2 fv fw row.1 = row.2.1 := (congrArg (fun x : Rw => x.2.1) hQ).symm
        have hv2 : lk fw row.1 = row.2.2 := (congrArg (fun x : Rw => x.2.2) hQ).symm
        have HGT := Lib.hid (fun Z (hZ : Below wr.heap.size wr Z) => get_any g bv bw many fv fw row.1 hokr.1 Z (hI.2.2.1.keep hZ))
        have HWS := Lib.hid (fun Z (hZ : Below wr.heap.size wr Z) => was_any g bv bw many fv fw row.1 hokr.1 Z (hI.2.2.1.keep hZ))
        rw [hv1] at HGT
        rw [hv2] at HWS
        have nv1 := fun X => neqVal_R row.2.1 row.2.1 hokr.2.1 hokr.2.1 X
        have nv2 := fun X => neqVal_R row.2.2 row.2.2 hokr.2.2 hokr.2.2 X
        rw [show (!(decide (row.2.1 = row.2.1))) = false by simp] at nv1
        rw [show (!(decide (row.2.2 = row.2.2))) = false by simp] at nv2
        have q0 : ∀ Z, Below wr.heap.size wr Z → Z.cell? ⟨b, o + k2 * 14, none⟩ = some (.int .u64 (lb row.1 0)) := fun Z h => (h.cell (p := ⟨b, o + k2 * 14, none⟩) hb2).trans (hcl 0 (by omega))
        have q1 : ∀ Z, Below wr.heap.size wr Z → Z.cell? ⟨b, o + k2 * 14 + 1, none⟩ = some (.int .u64 (lb row.1 1)) := fun Z h => (h.cell (p := ⟨b, o + k2 * 14 + 1, none⟩) hb2).trans (hcl 1 (by omega))
        have q2 : ∀ Z, Below wr.heap.size wr Z → Z.cell? ⟨b, o + k2 * 14 + 2, none⟩ = some (.int .u64 (lb row.1 2)) := fun Z h => (h.cell (p := ⟨b, o + k2 * 14 + 2, none⟩) hb2).trans (hcl 2 (by omega))
        have q3 : ∀ Z, Below wr.heap.size wr Z → Z.cell? ⟨b, o + k2 * 14 + 3, none⟩ = some (.int .u64 (lb row.1 3)) := fun Z h => (h.cell (p := ⟨b, o + k2 * 14 + 3, none⟩) hb2).trans (hcl 3 (by omega))
        have q4 : ∀ Z, Below wr.heap.size wr Z → Z.cell? ⟨b, o + k2 * 14 + 4, none⟩ = some (.int .u64 (lb row.2.1.1 0)) := fun Z h => (h.cell (p := ⟨b, o + k2 * 14 + 4, none⟩) hb2).trans (hcl 4 (by omega))
        have q5 : ∀ Z, Below wr.heap.size wr Z → Z.cell? ⟨b, o + k2 * 14 + 5, none⟩ = some (.int .u64 (lb row.2.1.1 1)) := fun Z h => (h.cell (p := ⟨b, o + k2 * 14 + 5, none⟩) hb2).trans (hcl 5 (by omega))
        have q6 : ∀ Z, Below wr.heap.size wr Z → Z.cell? ⟨b, o + k2 * 14 + 6, none⟩ = some (.int .u64 (lb row.2.1.1 2)) := fun Z h => (h.cell (p := ⟨b, o + k2 * 14 + 6, none⟩) hb2).trans (hcl 6 (by omega))
        have q7 : ∀ Z, Below wr.heap.size wr Z → Z.cell? ⟨b, o + k2 * 14 + 7, none⟩ = some (.int .u64 (lb row.2.1.1 3)) := fun Z h => (h.cell (p := ⟨b, o + k2 * 14 + 7, none⟩) hb2).trans (hcl 7 (by omega))
        have q8 : ∀ Z, Below wr.heap.size wr Z → Z.cell? ⟨b, o + k2 * 14 + 8, none⟩ = some (.int .u64 (row.2.1.2 : Nat)) := fun Z h => (h.cell (p := ⟨b, o + k2 * 14 + 8, none⟩) hb2).trans (hcl 8 (by omega))
        have q9 : ∀ Z, Below wr.heap.size wr Z → Z.cell? ⟨b, o + k2 * 14 + 9, none⟩ = some (.int .u64 (lb row.2.2.1 0)) := fun Z h => (h.cell (p := ⟨b, o + k2 * 14 + 9, none⟩) hb2).trans (hcl 9 (by omega))
        have q10 : ∀ Z, Below wr.heap.size wr Z → Z.cell? ⟨b, o + k2 * 14 + 10, none⟩ = some (.int .u64 (lb row.2.2.1 1)) := fun Z h => (h.cell (p := ⟨b, o + k2 * 14 + 10, none⟩) hb2).trans (hcl 10 (by omega))
        have q11 : ∀ Z, Below wr.heap.size wr Z → Z.cell? ⟨b, o + k2 * 14 + 11, none⟩ = some (.int .u64 (lb row.2.2.1 2)) := fun Z h => (h.cell (p := ⟨b, o + k2 * 14 + 11, none⟩) hb2).trans (hcl 11 (by omega))
        have q12 : ∀ Z, Below wr.heap.size wr Z → Z.cell? ⟨b, o + k2 * 14 + 12, none⟩ = some (.int .u64 (lb row.2.2.1 3)) := fun Z h => (h.cell (p := ⟨b, o + k2 * 14 + 12, none⟩) hb2).trans (hcl 12 (by omega))
        have q13 : ∀ Z, Below wr.heap.size wr Z → Z.cell? ⟨b, o + k2 * 14 + 13, none⟩ = some (.int .u64 (row.2.2.2 : Nat)) := fun Z h => (h.cell (p := ⟨b, o + k2 * 14 + 13, none⟩) hb2).trans (hcl 13 (by omega))
        have hdl : decide (N ≤ k2) = false := decide_eq_false (by omega)
        have hdl2 : decide ((N : Int) ≤ (k2 : Int)) = false := decide_eq_false (by omega)
        have h0 : Below wr.heap.size wr wr.drew := below_drew' (Below.refl _ _)
        have HF := Lib.hid (And.intro hI hK)
        have HLT := Lib.hid hlt
        clear hI hK hrow hmem hb1 hb2 hcl e2 e3 hrl hokr hQ hv1 hv2 hr
        go_upto_region 16 with fail
        go_region_held3 (fun w' => Below wr.heap.size wr w') (first | with_reducible assumption) (first
          | (go_at_call 10; refine (HGT.out _ (by with_reducible assumption)).mono ?_; rintro e zz ⟨rfl, hz⟩; have hH : Below wr.heap.size wr zz := rstep hz h0; clear hz)
          | (go_at_call 12; refine (HWS.out _ hH).mono ?_; rintro e z9 ⟨rfl, hz⟩; have hH2 : Below wr.heap.size wr z9 := rstep hz hH; clear hz)
          | fail)
        all_goals
          have g1 : IntKind.i64.wrap ((k2 : Int) + 1) = ((k2 + 1 : Nat) : Int) := IntWalk.i64_in _ (by have := HN.out; have := HLT.out; omega)
          clear cR cR0 HGT HWS nv1 nv2 q0 q1 q2 q3 q4 q5 q6 q7 q8 q9 q10 q11 q12 q13 hdl hdl2 h0 hH hltI hlt hk2
          go_wp2_with fail
          go_roundw
          case rel => exact ⟨k2 + 1, by have := HLT.out; omega, rfl, HF.out.1.kept (r0 := gN + 1) (row := none) (grown_new hH2) (by have := HG.out; omega) (Nat.le_refl _) (fun _ e => by cases e), (hH2.block Dd (Array.getElem?_eq_some_iff.1 HF.out.2).1).trans HF.out.2⟩
          case measure => have := HLT.out; simp [intOf]; omega
      · have hlN := HN.out.1
        have hkN : k2 = N := by omega
        have hge : ¬ (k2 : Int) < (N : Int) := by omega
        have cN : wr.cell? ⟨gN, 0, none⟩ = some (.int .i64 (n : Nat)) := cell_of_row wr _ 0 _ _ _ hI.1.2.2.2.2
        have cL : wr.cell? ⟨gL, 0, none⟩ = some (.slice yu many cu) := by rw [HVL.out]; exact cell_of_row wr _ 0 _ _ _ hI.1.2.2.2.1
        have cK : wr.cell? ⟨w.heap.size + 1, 0, none⟩ = some (.int .i64 k) := cell_of_row wr _ 0 _ _ _ hI.1.2.1
        have b2 : Blk wr (w.heap.size + 1 + 1) 4 #[.bool false] := hI.1.2.2.1
        have fB := frozen_of_row wr _ 0 _ _ b2
        have cB := cell_of_row wr _ 0 _ _ _ b2
        have hmin := HT.out.2
        have hdY : (wr.setCell ⟨w.heap.size + 1 + 1, 0, none⟩ (.bool true)).heap[Dd]? = some (.deferred (some [])) := (Below.heap_setCell wr ⟨w.heap.size + 1 + 1, 0, none⟩ _ Dd (by have := HT.out.1; have := HG.out; simp; omega)).trans hK
        have bY : Blk (wr.setCell ⟨w.heap.size + 1 + 1, 0, none⟩ (.bool true)) (w.heap.size + 1 + 1) 4 #[.bool true] := heap_setCell_same wr _ 0 _ _ _ b2
        have hBY : Below w.heap.size w (wr.setCell ⟨w.heap.size + 1 + 1, 0, none⟩ (.bool true)) := hI.2.2.2.setCell (p := ⟨w.heap.size + 1 + 1, 0, none⟩) (by simp; omega) _
        have HY9 := Lib.hid (And.intro hdY (And.intro bY hBY))
        clear hr b2 hI hK hdY bY hBY cR hlt hk2 hkN hlN
        go_wp2_with fail
        obtain ⟨hdY, bY, hBY⟩ := HY9.out
        obtain ⟨Y9, hY9⟩ : ∃ Y9, wr.setCell ⟨w.heap.size + 1 + 1, 0, none⟩ (.bool true) = Y9 := ⟨_, rfl⟩
        rw [hY9] at hdY bY hBY ⊢
        have bY2 : Blk (Y9.putObj Dd (.deferred none)) (w.heap.size + 1 + 1) 4 #[.bool true] := bY.kept (grownBy_putObj' Y9 Dd _) (by intro e; have := HT.out.1; have := HG.out; injection e with e; omega)
        have r0 := cell_of_row _ _ 0 _ _ _ bY2
        refine ⟨by simp, .inl ⟨_, _, rfl, run_takeDeferred hdY, ?_⟩⟩
        exact ⟨.bool true, by simp [results, Try.results9, go_sem, r0], rfl, hBY.trans (below_put Y9 _ (by have := HT.out.1; have := HG.out; omega))⟩
  case stop =>
    rintro Dd c pre X1 hD _ ⟨hI, rfl, hp0, hpm, hkp, hp1⟩ hK
    have hmin := many_left many pre.length k hpm hp0 hkp hp1
    obtain ⟨n, hn⟩ : ∃ n, pre.length = n := ⟨_, rfl⟩
    rw [hn] at hmin hI
    clear hkp hp1 hp0 hpm hn
    have HT := Lib.hid (And.intro hD hmin)
    have HI1 := Lib.hid (show IsB w.heap.size g bv bw gL gN gN many k vL r (allL l) l fv fw w n X1 ∧ X1.heap[Dd]? = some (.deferred (some [])) from ⟨hI, hK⟩)
    obtain ⟨N, hN⟩ : ∃ N, l.length = N := ⟨_, rfl⟩
    have HN := Lib.hid (And.intro hN HLL.out)
    clear hI hK hmin hD HI
    gi_wp2_with fail
    go_wp2_with fail
    go_loopw [12] (fun i wr => ∃ k2 : Nat, k2 ≤ N ∧ i = .int .i64 k2 ∧ IsB w.heap.size g bv bw gL gN gN many k vL r (allL l) l fv fw w n wr ∧ wr.heap[Dd]? = some (.deferred (some []))) (fun i _ => N - (intOf i).toNat)
    case atStart => exact ⟨0, Nat.zero_le _, rfl, HI1.out⟩
    case round =>
      obtain ⟨k2, hk2, rfl, hI, hK⟩ := hrel
      obtain ⟨xr, cr, hr⟩ := HS.out.2.1.is
      rw [HN.out.1] at hr
      have cR : ∀ Z, Below wr.heap.size wr Z → Z.cell? ⟨w.heap.size, 0, none⟩ = some (.slice xr N cr) := fun Z h => by rw [← hr]; exact cell_of_row Z _ 0 _ _ _ (hI.1.1.keep h)
      have cR0 := cR wr (Below.refl _ _)
      by_cases hlt : k2 < N
      · have hltI : (k2 : Int) < (N : Int) := by omega
        obtain ⟨row, hrow⟩ : ∃ row, l[k2]? = some row := ⟨_, List.getElem?_eq_getElem (by rw [HN.out.1]; exact hlt)⟩
        have hmem := List.mem_of_getElem? hrow
        obtain ⟨b, o, c, e9, hb1, hb2, hcl⟩ := hI.2.1.2 k2 row hrow
        rw [HN.out.1, hr] at e9
        injection e9 with e1 e2 e3
        subst e1
        have hrl := HS.out.2.2.1
        have hokr := (hrl.2.1 row hmem).1
        have hQ := hrl.2.2.1 row.1
        rw [rowN_Q, rowQ_of_mem hrl.1 hmem] at hQ
        have hv1 : lk2 fv fw row.1 = row.2.1 := (congrArg (fun x : Rw => x.2.1) hQ).symm
        have hv2 : lk fw row.1 = row.2.2 := (congrArg (fun x : Rw => x.2.2) hQ).symm
        have HGT := Lib.hid (fun Z (hZ : Below wr.heap.size wr Z) => get_any g bv bw many fv fw row.1 hokr.1 Z (hI.2.2.1.keep hZ))
        have HWS := Lib.hid (fun Z (hZ : Below wr.heap.size wr Z) => was_any g bv bw many fv fw row.1 hokr.1 Z (hI.2.2.1.keep hZ))
        rw [hv1] at HGT
        rw [hv2] at HWS
        have nv1 := fun X => neqVal_R row.2.1 row.2.1 hokr.2.1 hokr.2.1 X
        have nv2 := fun X => neqVal_R row.2.2 row.2.2 hokr.2.2 hokr.2.2 X
        rw [show (!(decide (row.2.1 = row.2.1))) = false by simp] at nv1
        rw [show (!(decide (row.2.2 = row.2.2))) = false by simp] at nv2
        have q0 : ∀ Z, Below wr.heap.size wr Z → Z.cell? ⟨b, o + k2 * 14, none⟩ = some (.int .u64 (lb row.1 0)) := fun Z h => (h.cell (p := ⟨b, o + k2 * 14, none⟩) hb2).trans (hcl 0 (by omega))
        have q1 : ∀ Z, Below wr.heap.size wr Z → Z.cell? ⟨b, o + k2 * 14 + 1, none⟩ = some (.int .u64 (lb row.1 1)) := fun Z h => (h.cell (p := ⟨b, o + k2 * 14 + 1, none⟩) hb2).trans (hcl 1 (by omega))
        have q2 : ∀ Z, Below wr.heap.size wr Z → Z.cell? ⟨b, o + k2 * 14 + 2, none⟩ = some (.int .u64 (lb row.1 2)) := fun Z h => (h.cell (p := ⟨b, o + k2 * 14 + 2, none⟩) hb2).trans (hcl 2 (by omega))
        have q3 : ∀ Z, Below wr.heap.size wr Z → Z.cell? ⟨b, o + k2 * 14 + 3, none⟩ = some (.int .u64 (lb row.1 3)) := fun Z h => (h.cell (p := ⟨b, o + k2 * 14 + 3, none⟩) hb2).trans (hcl 3 (by omega))
        have q4 : ∀ Z, Below wr.heap.size wr Z → Z.cell? ⟨b, o + k2 * 14 + 4, none⟩ = some (.int .u64 (lb row.2.1.1 0)) := fun Z h => (h.cell (p := ⟨b, o + k2 * 14 + 4, none⟩) hb2).trans (hcl 4 (by omega))
        have q5 : ∀ Z, Below wr.heap.size wr Z → Z.cell? ⟨b, o + k2 * 14 + 5, none⟩ = some (.int .u64 (lb row.2.1.1 1)) := fun Z h => (h.cell (p := ⟨b, o + k2 * 14 + 5, none⟩) hb2).trans (hcl 5 (by omega))
        have q6 : ∀ Z, Below wr.heap.size wr Z → Z.cell? ⟨b, o + k2 * 14 + 6, none⟩ = some (.int .u64 (lb row.2.1.1 2)) := fun Z h => (h.cell (p := ⟨b, o + k2 * 14 + 6, none⟩) hb2).trans (hcl 6 (by omega))
        have q7 : ∀ Z, Below wr.heap.size wr Z → Z.cell? ⟨b, o + k2 * 14 + 7, none⟩ = some (.int .u64 (lb row.2.1.1 3)) := fun Z h => (h.cell (p := ⟨b, o + k2 * 14 + 7, none⟩) hb2).trans (hcl 7 (by omega))
        have q8 : ∀ Z, Below wr.heap.size wr Z → Z.cell? ⟨b, o + k2 * 14 + 8, none⟩ = some (.int .u64 (row.2.1.2 : Nat)) := fun Z h => (h.cell (p := ⟨b, o + k2 * 14 + 8, none⟩) hb2).trans (hcl 8 (by omega))
        have q9 : ∀ Z, Below wr.heap.size wr Z → Z.cell? ⟨b, o + k2 * 14 + 9, none⟩ = some (.int .u64 (lb row.2.2.1 0)) := fun Z h => (h.cell (p := ⟨b, o + k2 * 14 + 9, none⟩) hb2).trans (hcl 9 (by omega))
        have q10 : ∀ Z, Below wr.heap.size wr Z → Z.cell? ⟨b, o + k2 * 14 + 10, none⟩ = some (.int .u64 (lb row.2.2.1 1)) := fun Z h => (h.cell (p := ⟨b, o + k2 * 14 + 10, none⟩) hb2).trans (hcl 10 (by omega))
        have q11 : ∀ Z, Below wr.heap.size wr Z → Z.cell? ⟨b, o + k2 * 14 + 11, none⟩ = some (.int .u64 (lb row.2.2.1 2)) := fun Z h => (h.cell (p := ⟨b, o + k2 * 14 + 11, none⟩) hb2).trans (hcl 11 (by omega))
        have q12 : ∀ Z, Below wr.heap.size wr Z → Z.cell? ⟨b, o + k2 * 14 + 12, none⟩ = some (.int .u64 (lb row.2.2.1 3)) := fun Z h => (h.cell (p := ⟨b, o + k2 * 14 + 12, none⟩) hb2).trans (hcl 12 (by omega))
        have q13 : ∀ Z, Below wr.heap.size wr Z → Z.cell? ⟨b, o + k2 * 14 + 13, none⟩ = some (.int .u64 (row.2.2.2 : Nat)) := fun Z h => (h.cell (p := ⟨b, o + k2 * 14 + 13, none⟩) hb2).trans (hcl 13 (by omega))
        have hdl : decide (N ≤ k2) = false := decide_eq_false (by omega)
        have hdl2 : decide ((N : Int) ≤ (k2 : Int)) = false := decide_eq_false (by omega)
        have h0 : Below wr.heap.size wr wr.drew := below_drew' (Below.refl _ _)
        have HF := Lib.hid (And.intro hI hK)
        have HLT := Lib.hid hlt
        clear hI hK hrow hmem hb1 hb2 hcl e2 e3 hrl hokr hQ hv1 hv2 hr
        go_upto_region 16 with fail
        go_region_held3 (fun w' => Below wr.heap.size wr w') (first | with_reducible assumption) (first
          | (go_at_call 10; refine (HGT.out _ (by with_reducible assumption)).mono ?_; rintro e zz ⟨rfl, hz⟩; have hH : Below wr.heap.size wr zz := rstep hz h0; clear hz)
          | (go_at_call 12; refine (HWS.out _ hH).mono ?_; rintro e z9 ⟨rfl, hz⟩; have hH2 : Below wr.heap.size wr z9 := rstep hz hH; clear hz)
          | fail)
        all_goals
          have g1 : IntKind.i64.wrap ((k2 : Int) + 1) = ((k2 + 1 : Nat) : Int) := IntWalk.i64_in _ (by have := HN.out; have := HLT.out; omega)
          clear cR cR0 HGT HWS nv1 nv2 q0 q1 q2 q3 q4 q5 q6 q7 q8 q9 q10 q11 q12 q13 hdl hdl2 h0 hH hltI hlt hk2
          go_wp2_with fail
          go_roundw
          case rel => exact ⟨k2 + 1, by have := HLT.out; omega, rfl, HF.out.1.kept (r0 := gN + 1) (row := none) (grown_new hH2) (by have := HG.out; omega) (Nat.le_refl _) (fun _ e => by cases e), (hH2.block Dd (Array.getElem?_eq_some_iff.1 HF.out.2).1).trans HF.out.2⟩
          case measure => have := HLT.out; simp [intOf]; omega
      · have hlN := HN.out.1
        have hkN : k2 = N := by omega
        have hge : ¬ (k2 : Int) < (N : Int) := by omega
        have cN : wr.cell? ⟨gN, 0, none⟩ = some (.int .i64 (n : Nat)) := cell_of_row wr _ 0 _ _ _ hI.1.2.2.2.2
        have cL : wr.cell? ⟨gL, 0, none⟩ = some (.slice yu many cu) := by rw [HVL.out]; exact cell_of_row wr _ 0 _ _ _ hI.1.2.2.2.1
        have cK : wr.cell? ⟨w.heap.size + 1, 0, none⟩ = some (.int .i64 k) := cell_of_row wr _ 0 _ _ _ hI.1.2.1
        have b2 : Blk wr (w.heap.size + 1 + 1) 4 #[.bool false] := hI.1.2.2.1
        have fB := frozen_of_row wr _ 0 _ _ b2
        have cB := cell_of_row wr _ 0 _ _ _ b2
        have hmin := HT.out.2
        have hdY : (wr.setCell ⟨w.heap.size + 1 + 1, 0, none⟩ (.bool true)).heap[Dd]? = some (.deferred (some [])) := (Below.heap_setCell wr ⟨w.heap.size + 1 + 1, 0, none⟩ _ Dd (by have := HT.out.1; have := HG.out; simp; omega)).trans hK
        have bY : Blk (wr.setCell ⟨w.heap.size + 1 + 1, 0, none⟩ (.bool true)) (w.heap.size + 1 + 1) 4 #[.bool true] := heap_setCell_same wr _ 0 _ _ _ b2
        have hBY : Below w.heap.size w (wr.setCell ⟨w.heap.size + 1 + 1, 0, none⟩ (.bool true)) := hI.2.2.2.setCell (p := ⟨w.heap.size + 1 + 1, 0, none⟩) (by simp; omega) _
        have HY9 := Lib.hid (And.intro hdY (And.intro bY hBY))
        clear hr b2 hI hK hdY bY hBY cR hlt hk2 hkN hlN
        go_wp2_with fail
        obtain ⟨hdY, bY, hBY⟩ := HY9.out
        obtain ⟨Y9, hY9⟩ : ∃ Y9, wr.setCell ⟨w.heap.size + 1 + 1, 0, none⟩ (.bool true) = Y9 := ⟨_, rfl⟩
        rw [hY9] at hdY bY hBY ⊢
        have bY2 : Blk (Y9.putObj Dd (.deferred none)) (w.heap.size + 1 + 1) 4 #[.bool true] := bY.kept (grownBy_putObj' Y9 Dd _) (by intro e; have := HT.out.1; have := HG.out; injection e with e; omega)
        have r0 := cell_of_row _ _ 0 _ _ _ bY2
        refine ⟨by simp, .inl ⟨_, _, rfl, run_takeDeferred hdY, ?_⟩⟩
        exact ⟨.bool true, by simp [results, Try.results9, go_sem, r0], rfl, hBY.trans (below_put Y9 _ (by have := HT.out.1; have := HG.out; omega))⟩
end Go.Proofs.Ytcfnhilcpfiocaa
