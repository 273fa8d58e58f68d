/- slot: a map's keys, collected. -/
import Derived.Test.YtcfnhilcpfiocaaStw
import Derived.Test.YtcfnhilcpfiocaaRa
namespace Go.Proofs.Ytcfnhilcpfiocaa
open Go.RowKit Go.Shelf Go.ChangeMaps Go.MapKept

/-- A row of words that the call owns. -/
def OwW (X : World) (base : Nat) (v : Value) (l : List Nat) : Prop := X.ownsRow base 25 4 v l.length (wvs l)
theorem und_sw : Try.prog.underlying 68 = some (.slice 25) := by kernel_rfl
theorem infoWd : (Try.prog.info? 25).map (fun i => (i.zero, i.size, i.bytes)) = some (some (.agg #[.int .u64 0, .int .u64 0, .int .u64 0, .int .u64 0]), 4, 32) := by kernel_rfl
theorem OwW.is {X : World} {base : Nat} {v : Value} {l : List Nat} (h : OwW X base v l) : ∃ x c, v = .slice x l.length c := by
  rcases h.2 with ⟨rfl, hn⟩ | ⟨g, cap, cur, rfl, _⟩
  · exact ⟨none, 0, by rw [hn]⟩
  · exact ⟨_, _, rfl⟩
theorem OwW.far {X : World} {base k : Nat} {v : Value} {l : List Nat} (h : OwW X base v l) (hk : k < base) : v.ownBlock ≠ some k := fun e => by have := (h.lt k e).1; omega
theorem OwW.kept {X Y : World} {base : Nat} {v : Value} {l : List Nat} {row : Option Nat} (h : OwW X base v l) (hg : X.grownBy Y row) (hne : ∀ r, row = some r → r < base) : OwW Y base v l := by
  refine World.ownsRow.kept h hg ?_
  cases hv : v.ownBlock with
  | none => exact .inl rfl
  | some k => exact .inr fun e => by have := (h.lt k hv).1; have := hne k e.symm; omega
theorem app_word (X : World) (base : Nat) (v : Value) (l : List Nat) (n : Nat) (ty : Nat) (h : OwW X base v l) (hb : base ≤ X.heap.size) (hl : l.length ≤ 1000000) :
    ∃ y c w', (Builtin.append_ #[68, 68] ty #[v, .slice (some ⟨X.heap.size, 0, none⟩) 1 1]).run Try.prog (X.alloc (.cells (Wc n) 25)) = .ok (.slice y (l.length + 1 : Nat) c) w' ∧ OwW w' base (.slice y (l.length + 1 : Nat) c) (l ++ [n]) ∧ (X.alloc (.cells (Wc n) 25)).grownBy w' v.ownBlock := by
  obtain ⟨i0, hi, hz0, hz1, hz2⟩ := info_parts' infoWd
  have hN := Blk.new X 25 (Wc n)
  obtain ⟨v', w', h1, h2, h3, _⟩ := run_append_own (P := Try.prog) (X.alloc (.cells (Wc n) 25)) base 68 ty 25 i0 (.agg #[.int .u64 0, .int .u64 0, .int .u64 0, .int .u64 0]) 4 32 und_sw hi hz0 hz1 hz2 rfl (by decide) v l.length (wvs l) (World.ownsRow.alloc h _) ⟨X.heap.size, 0, none⟩ 1 1 [.int .u64 (lb n 0), .int .u64 (lb n 1), .int .u64 (lb n 2), .int .u64 (lb n 3)] rfl
    (by
      intro j u hj
      rcases j with _ | _ | _ | _ | j
      · simp at hj; subst hj; exact cell_of_row _ _ 0 _ _ _ hN
      · simp at hj; subst hj; exact cell_of_row _ _ 1 _ _ _ hN
      · simp at hj; subst hj; exact cell_of_row _ _ 2 _ _ _ hN
      · simp at hj; subst hj; exact cell_of_row _ _ 3 _ _ _ hN
      · simp at hj)
    (fun u hu => by simp at hu; rcases hu with rfl | rfl | rfl | rfl <;> rfl) (by unfold maxLen; omega) (by omega) (by rw [World.size_alloc]; omega)
  have h2' : OwW w' base v' (l ++ [n]) := by
    unfold OwW
    rw [List.length_append, ← wvs_app]
    exact h2
  obtain ⟨y, c, e⟩ := h2'.is
  rw [List.length_append] at e
  subst e
  exact ⟨y, c, w', h1, h2', h3⟩
/-- An append inside a fence, its run at hand. -/
theorem wpIn_append_run {F : Fence} {nF : Nat} {P : Program} {w : World} {o : Oper} {a : Act} {K : Act → World → Prop} {Q : Exit → Act → World → Prop} (s x : Operand) (t : TypeId)
    (ho : o.op = .call { callee := .builtin .append, args := #[s, x], argTypes := #[t, t] }) {v u v' : Value} {w' : World} (hs : a.eval s = v) (hx : a.eval x = u)
    (hr : (Builtin.append_ #[t, t] o.type #[v, u]).run P w = .ok v' w') (hK : K (a.put o.dst v') w') : Oper.wpIn F nF P o a w K Q := by
  unfold Oper.wpIn
  refine ⟨by simp [Oper.about, ho, resolve, Target.leads, Sem.run_pure], ?_⟩
  rw [Oper.semAt_plain F _ _ (by rw [ho]; intro c hc'; cases hc')]
  simp [execOp, ho, resolve, invoke, builtin, hs, hx, hr, Result.andThen]
  exact hK
/-- The keys' iterator in one world. -/
theorem keys_at (n : Nat) (hn : 6 ≤ n) (A1 b n₀ R : Nat) (m : Nat → Option (Nat × Nat)) (Wo : World) (hR : Wo.heap.size = R) (hn₀ : n₀ ≤ R) (hb : b < n₀) (hA : Blk Wo A1 41 #[.map (some b)]) (hm : Mp Wo b m) :
    SeqAt n Try.prog 50 #[.pointer (some ⟨A1, 0, none⟩)] (fun x : Nat => #[W x]) n₀ (fun k => k = R) (fun pre x => x < MM ∧ m x ≠ none ∧ x ∉ pre) (fun xs => (∀ k, k ∈ xs ↔ m k ≠ none) ∧ xs.Nodup) (fun _ => True) Wo := fun l J Jx hJ _ hY h0 => by
  subst hR
  exact keys1_in n hn l A1 b n₀ m J Jx Wo hn₀ hb hA hm hJ hY h0
/-- What stands between two rounds. -/
def ApI (O : Nat) (m : Nat → Option (Nat × Nat)) (w : World) (pre : List Nat) (X : World) : Prop :=
  (∃ v, Blk X O 68 #[v] ∧ OwW X (O + 4) v pre) ∧ pre.Nodup ∧ (∀ x ∈ pre, x < MM ∧ m x ≠ none) ∧ Below O w X ∧ O + 1 ≤ X.heap.size
theorem ApI.stay {O : Nat} {m : Nat → Option (Nat × Nat)} {w : World} : StayM (fun k => k = O + 3 ∨ k = O + 1 ∨ k = O + 1 + 1) (ApI O m w) := fun pre X Y row h hg hr => by
  obtain ⟨⟨v, h1, h2⟩, h3, h4, h5, h6⟩ := h
  have hne : ∀ r, row = some r → O + 1 ≤ r ∧ r ≤ O + 3 := fun r e => by rcases hr r e with h | h | h <;> omega
  exact ⟨⟨v, h1.kept hg (fun e => by have := hne _ e.symm; omega), h2.kept hg (fun r e => by have := hne r e; omega)⟩, h3, h4, h5.grown hg (by omega) (fun r e => by have := hne r e; omega), Nat.le_trans h6 hg.size⟩
attribute [local go_sem] Oper.semAt_some
set_option maxRecDepth 100000 in
set_option maxHeartbeats 400000 in
theorem appendSeq_any (A1 b : Nat) (m : Nat → Option (Nat × Nat)) (w : World) (hA : Blk w A1 41 #[.map (some b)]) (hm : Mp w b m) (hmany : ∀ xs : List Nat, xs.Nodup → (∀ x ∈ xs, x < MM ∧ m x ≠ none) → xs.length ≤ 1000000) :
    Calls Try.prog 55 #[.slice none 0 0, .func (.func 50) #[] #[.pointer (some ⟨A1, 0, none⟩)]] w fun e w' => ∃ v xs, e = .returned v ∧ OwW w' w.heap.size v xs ∧ xs.Nodup ∧ (∀ k, k ∈ xs ↔ m k ≠ none) ∧ (∀ k ∈ xs, k < MM) ∧ Below w.heap.size w w' := by
  refine (callsIn_wide (n := 20)).1 ?_
  refine callsIn_of_wp_marks Try.func55 rfl trivial ?_ rfl
  simp only [Try.ntmps55, List.size_toArray, List.length_cons, List.length_nil, Nat.reduceAdd, Nat.reduceSub, Array.replicate_succ, Array.replicate_zero, List.push_toArray, List.append_toArray, List.nil_append, List.cons_append]
  refine (wpIn_wide (n := 20)).2 ?_
  go_wp2_with fail
  refine (wpIn_wide (n := 20)).1 ?_
  obtain ⟨W0, hW0⟩ : ∃ W0, w.alloc (.cells #[.slice none 0 0] 68) = W0 := ⟨_, rfl⟩
  have hB0 : Below w.heap.size w W0 := by rw [← hW0]; exact balloc (Below.refl _ _) _
  have hO0 : Blk W0 w.heap.size 68 #[.slice none 0 0] := by rw [← hW0]; exact Blk.new _ _ _
  have hs0 : W0.heap.size = w.heap.size + 1 := by rw [← hW0]; simp
  have hA0 := hA.keep hB0
  have hm0 := hm.keep hB0
  have hbl := hm.lt
  rw [hW0]
  clear hW0 hA hm
  obtain ⟨O, hO⟩ : ∃ O, w.heap.size = O := ⟨_, rfl⟩
  rw [hO] at hB0 hO0 hs0 hbl ⊢
  have hI0 : ApI O m w [] W0 := ⟨⟨_, hO0, World.ownsRow_nil _ _ _ _⟩, List.nodup_nil, fun x h => (by cases h), hB0, by omega⟩
  have hstay : StayM (fun k => k = O + 3 ∨ k = W0.heap.size ∨ k = W0.heap.size + 1) (ApI O m w) := by rw [hs0]; exact ApI.stay
  have HS := Lib.hid (And.intro hs0 (And.intro hO hmany))
  have HST := Lib.hid hstay
  clear hO hmany
  refine wpIn_rangeR (n := 20) (by omega) (gf := 50) (lb := #[.pointer (some ⟨A1, 0, none⟩)]) (M := fun k => k = O + 3) rfl (enters_of Try.func50 (by kernel_rfl) rfl)
    (fun Wo hbel hsz => keys_at (20 - 1) (by omega) A1 b O (O + 3) m Wo (by rw [hsz, hs0]) (by omega) hbl (hA0.keep hbel) (hm0.keep hbel)) (by omega) (fun k h => by omega) (fun _ => rfl)
    (ApI O m w) (fun _ _ _ => False) hstay (fun _ _ _ _ _ h _ _ => h) hI0
    (fun x a' X => ∃ g, (O + 2 < g ∧ a' = { tmps := #[.slice none 0 0, .func (.func 50) #[] #[.pointer (some ⟨A1, 0, none⟩)], .pointer (some ⟨O, 0, none⟩), undef, .slice none 0 0, .pointer (some ⟨g, 0, none⟩), .func (.func 50) #[] #[.pointer (some ⟨A1, 0, none⟩)], W x, undef, undef, undef, undef, undef], defers := [] }) ∧ Blk X g 25 (Wc x))
    (fun x a' _ X Y row h hg hr => by obtain ⟨g, h1, h2⟩ := h; exact ⟨g, h1, h2.kept hg (fun e => by have := hr _ e.symm; omega)⟩)
    ?assign ?body ?done ?stop
  case assign =>
    rintro l2 pre x X K _ hll hi hK
    have HK := Lib.hid (And.intro hll hK)
    clear hll hK hstay hI0
    gi_wp2_with fail
    exact HK.out.2 _ _ (KeptM.alloc _ _ _) ((Below.refl O X).alloc (by have := hi.2.2.2.2; omega) _) (HST.out.alloc _ hi) ⟨X.heap.size, ⟨by have := HK.out.1; have := HS.out.1; omega, rfl⟩, Blk.new _ _ _⟩
  case done =>
    rintro D xs X rfl hS hi hK
    obtain ⟨⟨v, h1, h2⟩, hnd, hmem, hbw, hsz⟩ := hi
    have hgD : X.grownBy (X.putObj W0.heap.size (.deferred none)) (some W0.heap.size) := grownBy_putObj' X _ _
    have hYo : OwW (X.putObj W0.heap.size (.deferred none)) O v xs := (World.ownsRow.mono h2 (show O ≤ O + 4 by omega)).kept hgD (.inr (h2.far (by have := HS.out.1; omega)))
    have hBD : Below O w (X.putObj W0.heap.size (.deferred none)) := hbw.trans (below_put X _ (by have := HS.out.1; omega))
    have cL := cell_of_row X _ 0 _ _ _ h1
    have HE := Lib.hid (And.intro hYo (And.intro hBD (And.intro hS hmem)))
    clear hYo hBD h1 h2 hnd hmem hbw hgD hS hstay hI0
    go_wp2_with fail
    refine ⟨by simp, .inl ⟨_, _, rfl, run_takeDeferred hK, ?_⟩⟩
    exact ⟨_, by simp [results, Try.results55, go_sem], v, xs, rfl, by rw [HS.out.2.1]; exact HE.out.1, HE.out.2.2.1.2, HE.out.2.2.1.1, fun k hk => (HE.out.2.2.2 k hk).1, by rw [HS.out.2.1]; exact HE.out.2.1⟩
  case stop =>
    rintro D c pre X hD _ h hK
    exact h.elim
  case body =>
    rintro l2 pre x a' X hl2 hgd hlo hi ⟨g, ⟨hg3, rfl⟩, hG⟩
    obtain ⟨⟨v, h1, h2⟩, hnd, hmem, hbw, hsz⟩ := hi
    have hgl := hG.lt
    obtain ⟨xl, cl, rfl⟩ := h2.is
    obtain ⟨y, c, w', hr, ho, hgr⟩ := app_word X (O + 4) _ pre x 68 h2 (by omega) (HS.out.2.2 pre hnd hmem)
    have hfar := h2.far (show O < O + 4 by omega)
    have h3 : Blk w' O 68 #[.slice xl pre.length cl] := (h1.alloc _).kept hgr (fun e => hfar e.symm)
    have cL := cell_of_row X _ 0 _ _ _ h1
    have k0 := cell_of_row X _ 0 _ _ _ hG
    have k1 := cell_of_row X _ 1 _ _ _ hG
    have k2 := cell_of_row X _ 2 _ _ _ hG
    have k3 := cell_of_row X _ 3 _ _ _ hG
    have c3 := cell_of_row w' _ 0 _ _ _ h3
    have f3 := frozen_of_row w' _ 0 _ _ h3
    have hk : KeptM (fun k => k = O + 3 ∨ k = W0.heap.size ∨ k = W0.heap.size + 1) X (w'.setCell ⟨O, 0, none⟩ (.slice y (pre.length + 1 : Nat) c)) := by
      have q1 : KeptM (fun k => k = O + 3 ∨ k = W0.heap.size ∨ k = W0.heap.size + 1) X (X.alloc (.cells (Wc x) 25)) := KeptM.alloc _ _ _
      refine (q1.trans (KeptM.grown hgr (fun r e h => ?_))).trans (KeptM.grown (grown_set' (grown_refl w' O) 0 _) (fun r e h => ?_))
      · have := (h2.lt r e).1; have := HS.out.1; rcases h with h | h | h <;> omega
      · cases e; have := HS.out.1; rcases h with h | h | h <;> omega
    have hbz : Below O X (w'.setCell ⟨O, 0, none⟩ (.slice y (pre.length + 1 : Nat) c)) := (((Below.refl O X).alloc (by omega) _).grown hgr (by simp; omega) (fun r e => by have := (h2.lt r e).1; omega)).grown (grown_set' (grown_refl w' O) 0 _) (by have := h3.lt; omega) (fun r e => by cases e; omega)
    have hoz : OwW (w'.setCell ⟨O, 0, none⟩ (.slice y (pre.length + 1 : Nat) c)) (O + 4) (.slice y (pre.length + 1 : Nat) c) (pre ++ [x]) := ho.kept (grown_set' (grown_refl w' O) 0 _) (fun r e => by cases e; omega)
    have hIz : ApI O m w (pre ++ [x]) (w'.setCell ⟨O, 0, none⟩ (.slice y (pre.length + 1 : Nat) c)) := ⟨⟨_, heap_setCell_same w' O 0 _ _ _ h3, hoz⟩, List.nodup_append.2 ⟨hnd, by simp, fun a ha d hc => by simp at hc; subst hc; exact fun e => hgd.2.2 (e ▸ ha)⟩, fun a ha => by
      rcases List.mem_append.1 ha with h | h
      · exact hmem a h
      · simp at h; subst h; exact ⟨hgd.1, hgd.2.1⟩, hbw.trans hbz, Nat.le_trans hsz hk.1⟩
    have HE := Lib.hid (And.intro hk (And.intro hbz hIz))
    clear hk hbz hIz hoz h1 h2 h3 hnd hmem hbw hsz hgl ho hgr hfar hgd hlo hl2 hG hstay hI0
    have HR := Lib.hid hr
    clear hr
    gi_wp2_with (first | (refine wpIn_append_run (.tmp 8) (.tmp 10) 68 rfl (v := .slice xl pre.length cl) (u := .slice (some ⟨X.heap.size, 0, none⟩) 1 1) rfl rfl HR.out ?_) | fail)
    exact HE.out

/-- Words below the bound, as a sorted row's elements. -/
theorem as_Wd (xs : List Nat) (h : ∀ k ∈ xs, k < MM) : ∃ d : List Wd, d.map (·.1) = xs := by
  induction xs with
  | nil => exact ⟨[], rfl⟩
  | cons a l ih =>
    obtain ⟨d, hd⟩ := ih fun k hk => h k (List.mem_cons_of_mem _ hk)
    exact ⟨⟨a, h a (List.mem_cons_self ..)⟩ :: d, by rw [List.map_cons, hd]⟩
set_option maxRecDepth 100000 in
theorem collect_any (A1 b : Nat) (m : Nat → Option (Nat × Nat)) (w : World) (hA : Blk w A1 41 #[.map (some b)]) (hm : Mp w b m) (hmany : ∀ xs : List Nat, xs.Nodup → (∀ x ∈ xs, x < MM ∧ m x ≠ none) → xs.length ≤ 1000000) :
    Calls Try.prog 48 #[.func (.func 50) #[] #[.pointer (some ⟨A1, 0, none⟩)]] w fun e w' => ∃ v xs, e = .returned v ∧ OwW w' w.heap.size v xs ∧ xs.Nodup ∧ (∀ k, k ∈ xs ↔ m k ≠ none) ∧ (∀ k ∈ xs, k < MM) ∧ Below w.heap.size w w' := by
  have HC := Lib.hid (appendSeq_any A1 b m w hA hm hmany)
  clear hA hm hmany
  go_enter Try.func48, Try.ntmps48
  go_wp2_with (first | (go_at_call 55; refine (HC.out).mono ?_; rintro e w1 ⟨v, xs, rfl, h⟩; have H1 := Lib.hid h; clear h) | fail)
  go_ret
  exact ⟨v, xs, rfl, H1.out⟩
theorem risen_perm (d : List Wd) : (risen d).Perm d := List.mergeSort_perm _ _
theorem risen_pair (d : List Wd) : (risen d).Pairwise fun x y => x.1 ≤ y.1 := by
  have h : (risen d).Pairwise fun x y => (!(ltOf wcmp) y x) = true := List.pairwise_mergeSort (fun a b c h1 h2 => by simp [wcmp_lt] at *; omega) (fun a b => by simp [wcmp_lt]; omega) d
  exact h.imp fun {a b} hab => by simpa [wcmp_lt] using hab
/-- The keys of a map, each once, rising. -/
def Rise (m : Nat → Option (Nat × Nat)) (l : List Nat) : Prop := l.Pairwise (· < ·) ∧ (∀ k, k ∈ l ↔ m k ≠ none) ∧ ∀ k ∈ l, k < MM
set_option maxRecDepth 100000 in
theorem sortedFunc_any (A1 b : Nat) (m : Nat → Option (Nat × Nat)) (w : World) (hA : Blk w A1 41 #[.map (some b)]) (hm : Mp w b m) (hmany : ∀ xs : List Nat, xs.Nodup → (∀ x ∈ xs, x < MM ∧ m x ≠ none) → xs.length ≤ 1000000) :
    Calls Try.prog 40 #[.func (.func 50) #[] #[.pointer (some ⟨A1, 0, none⟩)], .func (.func 31) #[] #[]] w fun e w' => ∃ v l, e = .returned v ∧ OwW w' w.heap.size v l ∧ Rise m l ∧ Below w.heap.size w w' := by
  have HC := Lib.hid (collect_any A1 b m w hA hm hmany)
  have HM := Lib.hid hmany
  clear hA hm hmany
  go_enter Try.func40, Try.ntmps40
  go_upto_region 2 with (first | (go_at_call 48; refine (HC.out).mono ?_; rintro e w1 ⟨v, xs, rfl, ho, h2, h3, h4, h5⟩; have H1 := Lib.hid (And.intro ho (And.intro h2 (And.intro h3 (And.intro h4 h5)))); clear ho h2 h3 h4 h5) | fail)
  obtain ⟨ho, h2, h3, h4, h5⟩ := H1.out
  obtain ⟨d, rfl⟩ := as_Wd xs h4
  have hlen := HM.out _ h2 fun x hx => ⟨h4 x hx, (h3 x).1 hx⟩
  rw [List.length_map] at hlen
  have hq : Calls Try.prog 49 #[v, .func (.func 31) #[] #[]] w1 fun e w' => e = .returned (.tuple #[]) ∧ OwW w' w.heap.size v ((risen d).map (·.1)) ∧ Below w.heap.size w w' := by
    have hl : (d.map (·.1)).length = d.length := List.length_map ..
    have hl2 : ((risen d).map (·.1)).length = d.length := by rw [List.length_map]; exact List.length_mergeSort _
    unfold OwW at ho
    rw [hl] at ho
    rcases ho.2 with ⟨rfl, hn⟩ | ⟨g, cap, cur, rfl, hb, _⟩
    · refine (AnyF.slices_SortFunc_none laysSort none 0 (.func (.func 31) #[] #[]) w1).mono ?_
      rintro e w' ⟨rfl, rfl⟩
      obtain rfl : d = [] := List.eq_nil_of_length_eq_zero hn
      have e0 : risen [] = [] := List.eq_nil_of_length_eq_zero (List.length_mergeSort _)
      refine ⟨rfl, ?_, h5⟩
      rw [e0]
      exact World.ownsRow_nil _ _ _ _
    · refine (sort_any g cap d w1 w.heap.size (by omega) ho).mono ?_
      rintro e w' ⟨rfl, q1, q2⟩
      refine ⟨rfl, by unfold OwW; rw [hl2]; exact q1, h5.grown q2 h5.size (fun r e => by cases e; exact hb)⟩
  have HQ := Lib.hid hq
  have hrise : Rise m ((risen d).map (·.1)) := by
    have hp := (risen_perm d).map (·.1)
    refine ⟨?_, fun k => (hp.mem_iff).trans (h3 k), fun k hk => h4 k ((hp.mem_iff).1 hk)⟩
    have h6 : ((risen d).map (·.1)).Nodup := hp.nodup_iff.2 h2
    have h7 : ((risen d).map (·.1)).Pairwise (· ≤ ·) := List.pairwise_map.2 (risen_pair d)
    exact (h7.and h6).imp fun {a b} h => by omega
  have HR := Lib.hid hrise
  clear ho h2 h3 h4 h5 hlen hq hrise H1
  go_wp2_with (first | (go_at_call 49; refine (HQ.out).mono ?_; rintro e w2 ⟨rfl, h⟩; have H2 := Lib.hid h; clear h) | fail)
  go_ret
  exact ⟨v, _, rfl, H2.out.1, HR.out, H2.out.2⟩
set_option maxRecDepth 100000 in
theorem sorted_any (b : Nat) (m : Nat → Option (Nat × Nat)) (w : World) (hm : Mp w b m) (hmany : ∀ xs : List Nat, xs.Nodup → (∀ x ∈ xs, x < MM ∧ m x ≠ none) → xs.length ≤ 1000000) :
    Calls Try.prog 30 #[.map (some b), .func (.func 31) #[] #[]] w fun e w' => ∃ v l, e = .returned v ∧ OwW w' w.heap.size v l ∧ Rise m l ∧ Below w.heap.size w w' := by
  have hmf : ∀ (fn : Fn) (first cap : Array Value) (w : World), (Instr.makeFunc fn first cap).run Try.prog w = .ok (.func fn first cap) w := fun _ _ _ _ => rfl
  have hal := balloc (Below.refl w.heap.size w) (.cells #[.map (some b)] 41)
  have HK : Hid (Calls Try.prog 41 #[.map (some b)] w fun e w' => e = .returned (.func (.func 50) #[] #[.pointer (some ⟨w.heap.size, 0, none⟩)]) ∧ w' = w.alloc (.cells #[.map (some b)] 41)) := Lib.hid (by
    clear hm hmany hal
    go_enter Try.func41, Try.ntmps41
    go_wp2_with fail
    go_ret
    exact ⟨rfl, rfl⟩)
  have HS := Lib.hid (sortedFunc_any w.heap.size b m (w.alloc (.cells #[.map (some b)] 41)) (Blk.new _ _ _) (hm.keep hal) hmany)
  have HB := Lib.hid hal
  clear hm hmany hal
  go_enter Try.func30, Try.ntmps30
  go_wp2_with (first
    | (go_at_call 41; refine (HK.out).mono ?_; rintro e w1 ⟨rfl, rfl⟩)
    | (go_at_call 40; refine (HS.out).mono ?_; rintro e w2 ⟨v, l, rfl, h⟩; have H2 := Lib.hid h; clear h)
    | fail)
  go_ret
  exact ⟨v, l, rfl, World.ownsRow.mono H2.out.1 (by simp), H2.out.2.1, bstep HB.out H2.out.2.2⟩

end Go.Proofs.Ytcfnhilcpfiocaa
