/- item: made of joined's closure: the list of all items' bytes. -/
import Derived.Test.YtjmfnafbjfceoaaDoorQb
namespace Go.Proofs.YtjmfnafbjfceoaaDoor
open Go.RowKit Go.Shelf
attribute [local irreducible] lb wdG byA byC heL
def toL (yss : List (List Nat)) : Nat := yss.flatten.length
theorem toL_take (yss : List (List Nat)) (k : Nat) (ys : List Nat) (h : yss[k]? = some ys) : toL (yss.take (k + 1)) = toL (yss.take k) + ys.length := by
  unfold toL
  rw [List.take_add_one, h]
  simp
theorem toL_le (yss : List (List Nat)) (k : Nat) : toL (yss.take k) ≤ toL yss := by
  unfold toL
  have h := List.take_append_drop k yss
  have : yss.flatten.length = (yss.take k).flatten.length + (yss.drop k).flatten.length := by
    conv => lhs; rw [← h]
    rw [List.flatten_append, List.length_append]
  omega
/-- Rows of bytes, each an own one. -/
def RwA (X : World) (base : Nat) (sl : List Value) (yss : List (List Nat)) : Prop := sl.length = yss.length ∧ ∀ (i : Nat) v ys, sl[i]? = some v → yss[i]? = some ys → Ow X base v ys
theorem RwA.kept {X Y : World} {base : Nat} {sl : List Value} {yss : List (List Nat)} {row : Option Nat} (h : RwA X base sl yss) (hg : X.grownBy Y row) (hne : ∀ r, row = some r → r < base) : RwA Y base sl yss :=
  ⟨h.1, fun i v ys h1 h2 => (h.2 i v ys h1 h2).kept hg hne⟩
theorem RwA.add {X : World} {base : Nat} {sl : List Value} {yss : List (List Nat)} {v : Value} {ys : List Nat} (h : RwA X base sl yss) (ho : Ow X base v ys) : RwA X base (sl ++ [v]) (yss ++ [ys]) := by
  refine ⟨by simp [h.1], fun i u zs h1 h2 => ?_⟩
  by_cases hi : i < sl.length
  · rw [List.getElem?_append_left hi] at h1
    rw [List.getElem?_append_left (by rw [← h.1]; exact hi)] at h2
    exact h.2 i u zs h1 h2
  · rw [List.getElem?_append_right (by omega)] at h1
    rw [List.getElem?_append_right (by rw [← h.1]; omega), ← h.1] at h2
    by_cases h0 : i - sl.length = 0
    · rw [h0] at h1 h2
      simp at h1 h2
      subst h1 h2
      exact ho
    · rw [List.getElem?_eq_none (by simp; omega)] at h1; cases h1

/-- An append inside a fence, its run at hand. -/
theorem wpIn_append_run {F : Fence} {nF : Nat} {P : Program} {w : World} {o : Oper} {a : Act} {K : Act → World → Prop} {Q : Exit → Act → World → Prop} (s x : Operand) (t : TypeId)
    (ho : o.op = .call { callee := .builtin .append, args := #[s, x], argTypes := #[t, t] }) {v u v' : Value} {w' : World} (hs : a.eval s = v) (hx : a.eval x = u)
    (hr : (Builtin.append_ #[t, t] o.type #[v, u]).run P w = .ok v' w') (hK : K (a.put o.dst v') w') : Oper.wpIn F nF P o a w K Q := by
  unfold Oper.wpIn
  refine ⟨by simp [Oper.about, ho, resolve, Target.leads, Sem.run_pure], ?_⟩
  rw [Oper.semAt_plain F _ _ (by rw [ho]; intro c hc'; cases hc')]
  simp [execOp, ho, resolve, invoke, builtin, hs, hx, hr, Result.andThen]
  exact hK
theorem Ow.apart {X : World} {base base' n size : Nat} {v u : Value} {l : List Nat} {xs : List Value} {e : TypeId} (h : Ow X base v l) (h2 : X.ownsRow base' e size u n xs) (he : e ≠ 5) : v.ownBlock = none ∨ v.ownBlock ≠ u.ownBlock := by
  rcases h.2.2 with ⟨hv, _⟩ | ⟨g, cap, cur, hv, _, hg, _⟩
  · exact .inl (by rw [hv]; rfl)
  · refine .inr fun hh => ?_
    rw [hv] at hh
    rcases h2.2 with ⟨hu, _⟩ | ⟨g2, cap2, cur2, hu, _, hg2, _⟩
    · rw [hu] at hh; cases hh
    · rw [hu] at hh
      simp only [Value.ownBlock, Option.some.injEq] at hh
      subst hh
      rw [hg] at hg2
      injection hg2 with hg2
      injection hg2 with _ ht
      exact he ht.symm
theorem Ow.kept' {X Y : World} {base : Nat} {v : Value} {l : List Nat} {row : Option Nat} (h : Ow X base v l) (hg : X.grownBy Y row) (hne : v.ownBlock = none ∨ v.ownBlock ≠ row) : Ow Y base v l := ⟨h.1, h.2.kept hg hne⟩
theorem own_slice {X : World} {base n : Nat} {e : TypeId} {size : Nat} {v : Value} {xs : List Value} (h : X.ownsRow base e size v n xs) : ∃ x c, v = .slice x n c := by
  rcases h.2 with ⟨rfl, rfl⟩ | ⟨g, cap, cur, rfl, _⟩
  · exact ⟨_, _, rfl⟩
  · exact ⟨_, _, rfl⟩
theorem own_far {X : World} {base n k : Nat} {e : TypeId} {size : Nat} {v : Value} {xs : List Value} (h : X.ownsRow base e size v n xs) (hk : k < base) : v.ownBlock ≠ some k := fun e => by have := (h.lt k e).1; omega
theorem infoS8 : (Tryd.prog.info? 22).map (fun i => (i.zero, i.size, i.bytes)) = some (some (.slice none 0 0), 1, 24) := by kernel_rfl

/-- What stands between two rounds of made. -/
def MI (T O : Nat) (yss : List (List Nat)) (w : World) (pre : List Nat) (X : World) : Prop :=
  pre = List.range pre.length ∧ Blk X T 3 #[.int .i64 (toL (yss.take pre.length) : Nat)] ∧ Blk X O 60 #[.func (.func 70) #[] #[.pointer (some ⟨T, 0, none⟩)]] ∧
  (∃ x c sl, Blk X (O + 1) 113 #[.slice x pre.length c] ∧ X.ownsRow (O + 4) 22 1 (.slice x pre.length c) pre.length sl ∧ RwA X (O + 4) sl (yss.take pre.length)) ∧ Below T w X ∧ O + 2 ≤ X.heap.size ∧ T < O
theorem MI.stay {T O : Nat} {yss : List (List Nat)} {w : World} : StayM (fun k => False ∨ k = O + 2 ∨ k = O + 2 + 1) (MI T O yss w) := fun pre X Y row h hg hr => by
  obtain ⟨h1, h2, h3, ⟨x, c, sl, h4, h5, h6⟩, h7, h8, h9⟩ := h
  have hne : ∀ r, row = some r → r = O + 2 ∨ r = O + 3 := fun r e => by rcases hr r e with h | h | h; exact h.elim; exact .inl h; exact .inr h
  refine ⟨h1, h2.kept hg (fun e => by rcases hne _ e.symm with h | h <;> omega), h3.kept hg (fun e => by rcases hne _ e.symm with h | h <;> omega), ⟨x, c, sl, h4.kept hg (fun e => by rcases hne _ e.symm with h | h <;> omega), h5.kept hg ?_, h6.kept hg (fun r e => by rcases hne r e with h | h <;> omega)⟩, h7.grown hg (by omega) (fun r e => by rcases hne r e with h | h <;> omega), Nat.le_trans h8 hg.size, h9⟩
  cases hv : (Value.slice x pre.length c).ownBlock with
  | none => exact .inl rfl
  | some k => exact .inr fun e => by have := (h5.lt k hv).1; rcases hne k e.symm with h | h <;> omega

attribute [local go_sem] Oper.semAt_some
set_option maxRecDepth 100000 in
set_option maxHeartbeats 4000000 in
theorem made_joined (V T B : Nat) (iv : Value) (vs : List Value) (yss : List (List Nat)) (w : World) (hBT : B ≤ T) (_hTV : T < V) (hvl : vs.length ≤ 100000) (hlen : yss.length = vs.length) (htot : toL yss ≤ 4096)
    (hV : Blk w V 23 #[iv]) (hT : Blk w T 3 #[.int .i64 0]) (hI : Its B w iv vs)
    (hL : ∀ (i : Nat) v ys, vs[i]? = some v → yss[i]? = some ys → ∀ X, Below T w X → T ≤ X.heap.size → Calls Tryd.prog 28 #[v] X fun e w' => ∃ y m d, e = .returned (.slice y m d) ∧ Ow w' X.heap.size (.slice y m d) ys ∧ Below X.heap.size X w') :
    Calls Tryd.prog 68 #[.func (.func 83) #[] #[.pointer (some ⟨V, 0, none⟩)], .func (.func 70) #[] #[.pointer (some ⟨T, 0, none⟩)]] w fun e w' =>
      ∃ x c sl, e = .returned (.slice x vs.length c) ∧ w'.ownsRow w.heap.size 22 1 (.slice x vs.length c) vs.length sl ∧ RwA w' w.heap.size sl yss ∧ Below T w w' := by
  refine (callsIn_wide (n := 20)).1 ?_
  refine callsIn_of_wp_marks Tryd.func68 rfl trivial ?_ rfl
  simp only [Tryd.ntmps68, List.size_toArray, List.length_cons, List.length_nil, Nat.reduceAdd, Nat.reduceSub, Array.replicate_succ, Array.replicate_zero, List.push_toArray, List.append_toArray, List.nil_append, List.cons_append]
  refine (wpIn_wide (n := 20)).2 ?_
  go_wp2_with fail
  refine (wpIn_wide (n := 20)).1 ?_
  have hTl := hT.lt
  have hVl := hV.lt
  have hT1 := (hT.alloc (.cells #[.func (.func 70) #[] #[.pointer (some ⟨T, 0, none⟩)]] 60)).alloc (.cells #[.slice none 0 0] 113)
  have hV1 := (hV.alloc (.cells #[.func (.func 70) #[] #[.pointer (some ⟨T, 0, none⟩)]] 60)).alloc (.cells #[.slice none 0 0] 113)
  have hO1 := (Blk.new w 60 #[.func (.func 70) #[] #[.pointer (some ⟨T, 0, none⟩)]]).alloc (.cells #[.slice none 0 0] 113)
  have hL1 := Blk.newS w (.cells #[.func (.func 70) #[] #[.pointer (some ⟨T, 0, none⟩)]] 60) 113 #[.slice none 0 0]
  have hW1 := balloc (balloc (Below.refl w.heap.size w) (.cells #[.func (.func 70) #[] #[.pointer (some ⟨T, 0, none⟩)]] 60)) (.cells #[.slice none 0 0] 113)
  have hI1 := hI.new hW1
  have hsz : ((w.alloc (.cells #[.func (.func 70) #[] #[.pointer (some ⟨T, 0, none⟩)]] 60)).alloc (.cells #[.slice none 0 0] 113)).heap.size = w.heap.size + 2 := by simp
  obtain ⟨W0, hW0⟩ : ∃ W0, ((w.alloc (.cells #[.func (.func 70) #[] #[.pointer (some ⟨T, 0, none⟩)]] 60)).alloc (.cells #[.slice none 0 0] 113)) = W0 := ⟨_, rfl⟩
  rw [hW0] at hT1 hV1 hO1 hL1 hW1 hI1 hsz ⊢
  clear hW0
  obtain ⟨O, hO⟩ : ∃ O, w.heap.size = O := ⟨_, rfl⟩
  have hWT : Below T w W0 := hW1.mono (by omega)
  have hM0 : MI T O yss w [] W0 := ⟨rfl, by simpa [toL] using hT1, by rw [← hO]; exact hO1, ⟨none, 0, [], by rw [← hO]; exact hL1, World.ownsRow_nil _ _ _ _, rfl, fun i v ys h _ => by simp at h⟩, hWT, by omega, by omega⟩
  have hTO : T < O := by omega
  rw [hO] at hsz ⊢
  have HO := Lib.hid hO
  have HL := Lib.hid hL
  have HLen := Lib.hid hlen
  have HSZ := Lib.hid hsz
  have hshape : ∀ (x : Nat), x < vs.length → ∃ c1 x1 n1 d1 y1 m1 e1, vs[x]? = some (.agg #[.bool c1, .slice x1 n1 d1, .slice y1 m1 e1]) := fun x hx => by
    obtain ⟨ad, cap, _, _, _, h⟩ := hI
    obtain ⟨b, o, _, _, _, hc⟩ := h (fun e => by rw [e] at hx; simp at hx)
    obtain ⟨c1, x1, n1, d1, y1, m1, e1, e, _⟩ := hc x (vs[x]) (by simp [hx])
    exact ⟨c1, x1, n1, d1, y1, m1, e1, by rw [← e]; simp [hx]⟩
  have HSH := Lib.hid hshape
  have hstay : StayM (fun k => False ∨ k = W0.heap.size ∨ k = W0.heap.size + 1) (MI T O yss w) := by rw [hsz]; exact MI.stay
  clear hL hlen hshape hT1 hO1 hL1 hT hV hI hO
  refine wpIn_rangeM (n := 20) (by omega) (gf := 83) (lb := #[.pointer (some ⟨V, 0, none⟩)]) rfl (enters_of Tryd.func83 (by kernel_rfl) rfl)
    (values_seq (20 - 1) T V B iv vs (by omega) W0 (by have := hW1.size; omega) hBT (by omega) hV1 hI1) (Below.refl _ _) (by have := hW1.size; omega) (fun _ h => h.elim) (fun _ => rfl)
    (MI T O yss w) (fun _ _ _ => False) hstay (fun _ _ _ _ _ h _ _ => h) hM0
    (fun x a' X => ∃ g c1 x1 n1 d1 y1 m1 e1, (vs[x]? = some (.agg #[.bool c1, .slice x1 n1 d1, .slice y1 m1 e1]) ∧ O + 3 < g ∧ a' = { tmps := #[.func (.func 83) #[] #[.pointer (some ⟨V, 0, none⟩)], .func (.func 70) #[] #[.pointer (some ⟨T, 0, none⟩)], undef, .pointer (some ⟨O, 0, none⟩), .slice none 0 0, .pointer (some ⟨O + 1, 0, none⟩), .pointer (some ⟨g, 0, none⟩), .func (.func 83) #[] #[.pointer (some ⟨V, 0, none⟩)], .agg #[.bool c1, .slice x1 n1 d1, .slice y1 m1 e1], undef, undef, undef, undef, undef, undef, undef], defers := [] }) ∧ Blk X g 25 #[.bool c1, .slice x1 n1 d1, .slice y1 m1 e1])
    (fun x a' _ X Y row h hg hr => by obtain ⟨g, c1, x1, n1, d1, y1, m1, e1, h1, h2⟩ := h; exact ⟨g, c1, x1, n1, d1, y1, m1, e1, h1, h2.kept hg (fun e => by have := hr _ e.symm; have := h1.2.1; have := HSZ.out; omega)⟩)
    ?assign ?body ?done ?stop
  case assign =>
    rintro l2 pre x X K ⟨hpre, hx⟩ hll hi hK
    obtain ⟨c1, x1, n1, d1, y1, m1, e1, hv⟩ := HSH.out x hx
    have hgd : vs.getD x undef = .agg #[.bool c1, .slice x1 n1 d1, .slice y1 m1 e1] := by rw [List.getD_eq_getElem?_getD, hv]; rfl
    rw [hgd]
    have HK := Lib.hid (And.intro hv (And.intro hll hK))
    clear hv hgd hpre hx hll hK
    gi_wp2_with fail
    exact HK.out.2.2 _ _ (KeptM.alloc _ _ _) ((Below.refl T X).alloc (by have := hi.2.2.2.2.2.1; omega) _) (hstay.alloc _ hi) ⟨X.heap.size, c1, x1, n1, d1, y1, m1, e1, ⟨HK.out.1, by have := HK.out.2.1; have := HSZ.out; omega, rfl⟩, Blk.new _ _ _⟩
  case done =>
    rintro D xs X hD rfl hi hK
    obtain ⟨_, h2, h3, ⟨x, c, sl, h4, h5, h6⟩, h7, h8, h9⟩ := hi
    rw [List.length_range] at h4 h5 h6
    have h6' : RwA X w.heap.size sl yss := by
      rw [← HLen.out, List.take_length] at h6
      exact ⟨h6.1, fun i v ys p q => (h6.2 i v ys p q).mono (by have := HO.out; omega)⟩
    have h5' := h5.mono (show w.heap.size ≤ O + 4 by have := HO.out; omega)
    have hgD : X.grownBy (X.putObj D (.deferred none)) (some D) := grownBy_putObj' X D _
    have hYo := h5'.kept hgD (.inr (own_far h5 (by have := HSZ.out; omega)))
    have hYR : RwA (X.putObj D (.deferred none)) w.heap.size sl yss := ⟨h6'.1, fun i v ys p q => by
      rw [← HLen.out, List.take_length] at h6
      exact (h6'.2 i v ys p q).kept' hgD (.inr (own_far (h6.2 i v ys p q).2 (by have := HSZ.out; omega)))⟩
    have hBD : Below T w (X.putObj D (.deferred none)) := h7.trans (below_put X _ (by have := HSZ.out; omega))
    have cL := cell_of_row X _ 0 _ _ _ h4
    have HE := Lib.hid (And.intro hYo (And.intro hYR hBD))
    clear hYo hYR hBD h2 h3 h4 h5 h6 h7 h5' h6' hgD
    go_wp2_with fail
    refine ⟨by simp, .inl ⟨_, _, rfl, run_takeDeferred hK, ?_⟩⟩
    exact ⟨_, by simp [results, Tryd.results68, go_sem], x, c, sl, rfl, HE.out⟩
  case stop =>
    rintro D c pre X hD _ h hK
    exact h.elim
  case body =>
    rintro l2 pre x a' X hl2 ⟨hpre, hx⟩ hlo hi ⟨g, c1, x1, n1, d1, y1, m1, e1, ⟨hv, hg3, rfl⟩, hG⟩
    have hplen : pre.length = x := by rw [hpre, List.length_range]
    obtain ⟨_, h2, h3, ⟨xl, cl, sl, h4, h5, h6⟩, h7, h8, h9⟩ := hi
    rw [hplen] at h2 h4 h5 h6
    obtain ⟨ys, hys⟩ : ∃ ys, yss[x]? = some ys := ⟨yss[x]'(by rw [HLen.out]; exact hx), by simp [HLen.out, hx]⟩
    have htk := toL_take yss x ys hys
    have htl := toL_le yss (x + 1)
    have hXs : O + 4 ≤ X.heap.size := by obtain ⟨r, hr⟩ := hlo; have := (Array.getElem?_eq_some_iff.1 hr).1; have := HSZ.out; omega
    have HX0 := Lib.hid (And.intro h2 (And.intro h3 (And.intro h4 (And.intro h5 (And.intro h6 (And.intro h7 hG))))))
    have HP0 := Lib.hid (And.intro hpre (And.intro hplen (And.intro hys (And.intro htk hv))))
    clear h2 h3 h4 h5 h6 h7 hG hpre hplen hys htk hv hlo
    gi_wp2_with fail
    obtain ⟨h2, h3, h4, h5, h6, h7, hG⟩ := HX0.out
    obtain ⟨hpre, hplen, hys, htk, hv⟩ := HP0.out
    clear HX0 HP0
    refine wpIn_region_round l2 (by kernel_rfl) (by kernel_rfl) ?_
    have hC := callsIn_wide (n := 20 - 1 - 1 - 1).2 (joined1_any T (toL (yss.take x)) ys c1 x1 n1 d1 y1 m1 e1 X.drew h2.drew' (by omega) (fun Y hY => HL.out x _ ys hv hys Y ((h7.trans (Below.refl T X).drew).trans (hY.mono (by show T ≤ X.heap.size; omega))) (by have := hY.size; have : X.heap.size ≤ Y.heap.size := this; omega)))
    have HC := Lib.hid hC
    have cL : X.drew.cell? ⟨O + 1, 0, none⟩ = some (.slice xl x cl) := cell_of_row _ _ 0 _ _ _ h4.drew'
    have cO : X.drew.cell? ⟨O, 0, none⟩ = some (.func (.func 70) #[] #[.pointer (some ⟨T, 0, none⟩)]) := cell_of_row _ _ 0 _ _ _ h3.drew'
    have cG0 : X.drew.cell? ⟨g, 0, none⟩ = some (.bool c1) := cell_of_row _ _ 0 _ _ _ hG.drew'
    have cG1 : X.drew.cell? ⟨g, 1, none⟩ = some (.slice x1 n1 d1) := cell_of_row _ _ 1 _ _ _ hG.drew'
    have cG2 : X.drew.cell? ⟨g, 2, none⟩ = some (.slice y1 m1 e1) := cell_of_row _ _ 2 _ _ _ hG.drew'
    have HX := Lib.hid (And.intro h2 (And.intro h3 (And.intro h4 (And.intro h5 (And.intro h6 (And.intro h7 (And.intro hXs hG)))))))
    have HP := Lib.hid (And.intro hpre (And.intro hplen (And.intro hys (And.intro htk htl))))
    clear h2 h3 h4 h5 h6 h7 h8 hG hpre hplen hys htk htl hv hC
    refine join_all (T := ?TK) (fun key => ?mk) ?kk
    case mk =>
      refine wpAnyIn_ready (rs := [0, 1, 2]) (by kernel_rfl) (by simp) ?_
      refine AllReadyIn.cons rfl (fun K hK => ?_) (AllReadyIn.cons rfl (fun K hK => ?_) (AllReadyIn.cons rfl (fun K hK => ?_) (AllReadyIn.nil)))
      · go_simp
        refine hK _ _ ?_
        clear hK K
        refine wpAnyIn_ready (rs := [1, 2]) (by kernel_rfl) (by simp) ?_
        refine AllReadyIn.cons rfl (fun K hK => ?_) (AllReadyIn.cons rfl (fun K hK => ?_) (AllReadyIn.nil))
        · go_simp
          refine hK _ _ ?_
          clear hK K
          refine wpAnyIn_ready (rs := [2]) (by kernel_rfl) (by simp) ?_
          refine AllReadyIn.cons rfl (fun K hK => ?_) (AllReadyIn.nil)
          · go_simp
            refine hK _ _ ?_
            clear hK K
            refine wpAnyIn_ready (rs := [3]) (by kernel_rfl) (by simp) ?_
            refine AllReadyIn.cons rfl (fun K hK => ?_) (AllReadyIn.nil)
            · go_simp
              refine ⟨trivial, HC.out.mono ?_⟩
              rintro e wk ⟨y, m, d, rfl, hOw, hTk, hgr⟩
              have hLl : O + 1 < X.heap.size := by have := HX.out.2.2.2.2.2.2.1; omega
              have cL2 : wk.cell? ⟨O + 1, 0, none⟩ = some (.slice xl x cl) := hgr.cell cL (fun e => by injection e with e; have e2 : O + 1 = T := e; omega)
              have cL3 : (wk.alloc (.cells #[.slice y m d] 22)).cell? ⟨O + 1, 0, none⟩ = some (.slice xl x cl) := (World.grownBy_alloc wk _ none).cell cL2 (by simp)
              have HF := Lib.hid (And.intro hOw (And.intro hTk hgr))
              clear hOw hTk hgr
              refine hK _ _ ?_
              clear hK K
              refine wpAnyIn_ready (rs := [4]) (by kernel_rfl) (by simp) ?_
              refine AllReadyIn.cons rfl (fun K hK => ?_) (AllReadyIn.nil)
              · go_simp
                refine hK _ _ ?_
                clear hK K
                revert HF
                revert wk d m y
                exact key.out
        · go_simp
          refine hK _ _ ?_
          clear hK K
          refine wpAnyIn_ready (rs := [1]) (by kernel_rfl) (by simp) ?_
          refine AllReadyIn.cons rfl (fun K hK => ?_) (AllReadyIn.nil)
          · go_simp
            refine hK _ _ ?_
            clear hK K
            refine wpAnyIn_ready (rs := [3]) (by kernel_rfl) (by simp) ?_
            refine AllReadyIn.cons rfl (fun K hK => ?_) (AllReadyIn.nil)
            · go_simp
              refine ⟨trivial, HC.out.mono ?_⟩
              rintro e wk ⟨y, m, d, rfl, hOw, hTk, hgr⟩
              have hLl : O + 1 < X.heap.size := by have := HX.out.2.2.2.2.2.2.1; omega
              have cL2 : wk.cell? ⟨O + 1, 0, none⟩ = some (.slice xl x cl) := hgr.cell cL (fun e => by injection e with e; have e2 : O + 1 = T := e; omega)
              have cL3 : (wk.alloc (.cells #[.slice y m d] 22)).cell? ⟨O + 1, 0, none⟩ = some (.slice xl x cl) := (World.grownBy_alloc wk _ none).cell cL2 (by simp)
              have HF := Lib.hid (And.intro hOw (And.intro hTk hgr))
              clear hOw hTk hgr
              refine hK _ _ ?_
              clear hK K
              refine wpAnyIn_ready (rs := [4]) (by kernel_rfl) (by simp) ?_
              refine AllReadyIn.cons rfl (fun K hK => ?_) (AllReadyIn.nil)
              · go_simp
                refine hK _ _ ?_
                clear hK K
                revert HF
                revert wk d m y
                exact key.out
      · go_simp
        refine hK _ _ ?_
        clear hK K
        refine wpAnyIn_ready (rs := [0, 2]) (by kernel_rfl) (by simp) ?_
        refine AllReadyIn.cons rfl (fun K hK => ?_) (AllReadyIn.cons rfl (fun K hK => ?_) (AllReadyIn.nil))
        · go_simp
          refine hK _ _ ?_
          clear hK K
          refine wpAnyIn_ready (rs := [2]) (by kernel_rfl) (by simp) ?_
          refine AllReadyIn.cons rfl (fun K hK => ?_) (AllReadyIn.nil)
          · go_simp
            refine hK _ _ ?_
            clear hK K
            refine wpAnyIn_ready (rs := [3]) (by kernel_rfl) (by simp) ?_
            refine AllReadyIn.cons rfl (fun K hK => ?_) (AllReadyIn.nil)
            · go_simp
              refine ⟨trivial, HC.out.mono ?_⟩
              rintro e wk ⟨y, m, d, rfl, hOw, hTk, hgr⟩
              have hLl : O + 1 < X.heap.size := by have := HX.out.2.2.2.2.2.2.1; omega
              have cL2 : wk.cell? ⟨O + 1, 0, none⟩ = some (.slice xl x cl) := hgr.cell cL (fun e => by injection e with e; have e2 : O + 1 = T := e; omega)
              have cL3 : (wk.alloc (.cells #[.slice y m d] 22)).cell? ⟨O + 1, 0, none⟩ = some (.slice xl x cl) := (World.grownBy_alloc wk _ none).cell cL2 (by simp)
              have HF := Lib.hid (And.intro hOw (And.intro hTk hgr))
              clear hOw hTk hgr
              refine hK _ _ ?_
              clear hK K
              refine wpAnyIn_ready (rs := [4]) (by kernel_rfl) (by simp) ?_
              refine AllReadyIn.cons rfl (fun K hK => ?_) (AllReadyIn.nil)
              · go_simp
                refine hK _ _ ?_
                clear hK K
                revert HF
                revert wk d m y
                exact key.out
        · go_simp
          refine hK _ _ ?_
          clear hK K
          refine wpAnyIn_ready (rs := [0, 3]) (by kernel_rfl) (by simp) ?_
          refine AllReadyIn.cons rfl (fun K hK => ?_) (AllReadyIn.cons rfl (fun K hK => ?_) (AllReadyIn.nil))
          · go_simp
            refine hK _ _ ?_
            clear hK K
            refine wpAnyIn_ready (rs := [3]) (by kernel_rfl) (by simp) ?_
            refine AllReadyIn.cons rfl (fun K hK => ?_) (AllReadyIn.nil)
            · go_simp
              refine ⟨trivial, HC.out.mono ?_⟩
              rintro e wk ⟨y, m, d, rfl, hOw, hTk, hgr⟩
              have hLl : O + 1 < X.heap.size := by have := HX.out.2.2.2.2.2.2.1; omega
              have cL2 : wk.cell? ⟨O + 1, 0, none⟩ = some (.slice xl x cl) := hgr.cell cL (fun e => by injection e with e; have e2 : O + 1 = T := e; omega)
              have cL3 : (wk.alloc (.cells #[.slice y m d] 22)).cell? ⟨O + 1, 0, none⟩ = some (.slice xl x cl) := (World.grownBy_alloc wk _ none).cell cL2 (by simp)
              have HF := Lib.hid (And.intro hOw (And.intro hTk hgr))
              clear hOw hTk hgr
              refine hK _ _ ?_
              clear hK K
              refine wpAnyIn_ready (rs := [4]) (by kernel_rfl) (by simp) ?_
              refine AllReadyIn.cons rfl (fun K hK => ?_) (AllReadyIn.nil)
              · go_simp
                refine hK _ _ ?_
                clear hK K
                revert HF
                revert wk d m y
                exact key.out
          · go_simp
            refine ⟨trivial, HC.out.mono ?_⟩
            rintro e wk ⟨y, m, d, rfl, hOw, hTk, hgr⟩
            have hLl : O + 1 < X.heap.size := by have := HX.out.2.2.2.2.2.2.1; omega
            have cL2 : wk.cell? ⟨O + 1, 0, none⟩ = some (.slice xl x cl) := hgr.cell cL (fun e => by injection e with e; have e2 : O + 1 = T := e; omega)
            have cL3 : (wk.alloc (.cells #[.slice y m d] 22)).cell? ⟨O + 1, 0, none⟩ = some (.slice xl x cl) := (World.grownBy_alloc wk _ none).cell cL2 (by simp)
            have HF := Lib.hid (And.intro hOw (And.intro hTk hgr))
            clear hOw hTk hgr
            refine hK _ _ ?_
            clear hK K
            refine wpAnyIn_ready (rs := [0, 4]) (by kernel_rfl) (by simp) ?_
            refine AllReadyIn.cons rfl (fun K hK => ?_) (AllReadyIn.cons rfl (fun K hK => ?_) (AllReadyIn.nil))
            · go_simp
              refine hK _ _ ?_
              clear hK K
              refine wpAnyIn_ready (rs := [4]) (by kernel_rfl) (by simp) ?_
              refine AllReadyIn.cons rfl (fun K hK => ?_) (AllReadyIn.nil)
              · go_simp
                refine hK _ _ ?_
                clear hK K
                revert HF
                revert wk d m y
                exact key.out
            · go_simp
              refine hK _ _ ?_
              clear hK K
              refine wpAnyIn_ready (rs := [0]) (by kernel_rfl) (by simp) ?_
              refine AllReadyIn.cons rfl (fun K hK => ?_) (AllReadyIn.nil)
              · go_simp
                refine hK _ _ ?_
                clear hK K
                revert HF
                revert wk d m y
                exact key.out
      · go_simp
        refine hK _ _ ?_
        clear hK K
        refine wpAnyIn_ready (rs := [0, 1]) (by kernel_rfl) (by simp) ?_
        refine AllReadyIn.cons rfl (fun K hK => ?_) (AllReadyIn.cons rfl (fun K hK => ?_) (AllReadyIn.nil))
        · go_simp
          refine hK _ _ ?_
          clear hK K
          refine wpAnyIn_ready (rs := [1]) (by kernel_rfl) (by simp) ?_
          refine AllReadyIn.cons rfl (fun K hK => ?_) (AllReadyIn.nil)
          · go_simp
            refine hK _ _ ?_
            clear hK K
            refine wpAnyIn_ready (rs := [3]) (by kernel_rfl) (by simp) ?_
            refine AllReadyIn.cons rfl (fun K hK => ?_) (AllReadyIn.nil)
            · go_simp
              refine ⟨trivial, HC.out.mono ?_⟩
              rintro e wk ⟨y, m, d, rfl, hOw, hTk, hgr⟩
              have hLl : O + 1 < X.heap.size := by have := HX.out.2.2.2.2.2.2.1; omega
              have cL2 : wk.cell? ⟨O + 1, 0, none⟩ = some (.slice xl x cl) := hgr.cell cL (fun e => by injection e with e; have e2 : O + 1 = T := e; omega)
              have cL3 : (wk.alloc (.cells #[.slice y m d] 22)).cell? ⟨O + 1, 0, none⟩ = some (.slice xl x cl) := (World.grownBy_alloc wk _ none).cell cL2 (by simp)
              have HF := Lib.hid (And.intro hOw (And.intro hTk hgr))
              clear hOw hTk hgr
              refine hK _ _ ?_
              clear hK K
              refine wpAnyIn_ready (rs := [4]) (by kernel_rfl) (by simp) ?_
              refine AllReadyIn.cons rfl (fun K hK => ?_) (AllReadyIn.nil)
              · go_simp
                refine hK _ _ ?_
                clear hK K
                revert HF
                revert wk d m y
                exact key.out
        · go_simp
          refine hK _ _ ?_
          clear hK K
          refine wpAnyIn_ready (rs := [0, 3]) (by kernel_rfl) (by simp) ?_
          refine AllReadyIn.cons rfl (fun K hK => ?_) (AllReadyIn.cons rfl (fun K hK => ?_) (AllReadyIn.nil))
          · go_simp
            refine hK _ _ ?_
            clear hK K
            refine wpAnyIn_ready (rs := [3]) (by kernel_rfl) (by simp) ?_
            refine AllReadyIn.cons rfl (fun K hK => ?_) (AllReadyIn.nil)
            · go_simp
              refine ⟨trivial, HC.out.mono ?_⟩
              rintro e wk ⟨y, m, d, rfl, hOw, hTk, hgr⟩
              have hLl : O + 1 < X.heap.size := by have := HX.out.2.2.2.2.2.2.1; omega
              have cL2 : wk.cell? ⟨O + 1, 0, none⟩ = some (.slice xl x cl) := hgr.cell cL (fun e => by injection e with e; have e2 : O + 1 = T := e; omega)
              have cL3 : (wk.alloc (.cells #[.slice y m d] 22)).cell? ⟨O + 1, 0, none⟩ = some (.slice xl x cl) := (World.grownBy_alloc wk _ none).cell cL2 (by simp)
              have HF := Lib.hid (And.intro hOw (And.intro hTk hgr))
              clear hOw hTk hgr
              refine hK _ _ ?_
              clear hK K
              refine wpAnyIn_ready (rs := [4]) (by kernel_rfl) (by simp) ?_
              refine AllReadyIn.cons rfl (fun K hK => ?_) (AllReadyIn.nil)
              · go_simp
                refine hK _ _ ?_
                clear hK K
                revert HF
                revert wk d m y
                exact key.out
          · go_simp
            refine ⟨trivial, HC.out.mono ?_⟩
            rintro e wk ⟨y, m, d, rfl, hOw, hTk, hgr⟩
            have hLl : O + 1 < X.heap.size := by have := HX.out.2.2.2.2.2.2.1; omega
            have cL2 : wk.cell? ⟨O + 1, 0, none⟩ = some (.slice xl x cl) := hgr.cell cL (fun e => by injection e with e; have e2 : O + 1 = T := e; omega)
            have cL3 : (wk.alloc (.cells #[.slice y m d] 22)).cell? ⟨O + 1, 0, none⟩ = some (.slice xl x cl) := (World.grownBy_alloc wk _ none).cell cL2 (by simp)
            have HF := Lib.hid (And.intro hOw (And.intro hTk hgr))
            clear hOw hTk hgr
            refine hK _ _ ?_
            clear hK K
            refine wpAnyIn_ready (rs := [0, 4]) (by kernel_rfl) (by simp) ?_
            refine AllReadyIn.cons rfl (fun K hK => ?_) (AllReadyIn.cons rfl (fun K hK => ?_) (AllReadyIn.nil))
            · go_simp
              refine hK _ _ ?_
              clear hK K
              refine wpAnyIn_ready (rs := [4]) (by kernel_rfl) (by simp) ?_
              refine AllReadyIn.cons rfl (fun K hK => ?_) (AllReadyIn.nil)
              · go_simp
                refine hK _ _ ?_
                clear hK K
                revert HF
                revert wk d m y
                exact key.out
            · go_simp
              refine hK _ _ ?_
              clear hK K
              refine wpAnyIn_ready (rs := [0]) (by kernel_rfl) (by simp) ?_
              refine AllReadyIn.cons rfl (fun K hK => ?_) (AllReadyIn.nil)
              · go_simp
                refine hK _ _ ?_
                clear hK K
                revert HF
                revert wk d m y
                exact key.out
    case kk =>
      intro wk y m d cLa cLb HF
      obtain ⟨hOw, hTk, hgr⟩ := HF.out
      obtain ⟨h2, h3, h4, h5, h6, h7, hXs, hG⟩ := HX.out
      obtain ⟨hpre, hplen, hys, htk, htl⟩ := HP.out
      have hTl2 : T < X.heap.size := h2.lt
      have hd0 : X.grownBy X.drew none := grown_drew ⟨rfl, rfl, rfl, Nat.le_refl _, fun _ _ _ => rfl⟩
      have hwk : X.heap.size ≤ wk.heap.size := hgr.size
      have hgA := grown_alloc wk (.cells #[.slice y m d] 22)
      have h5k : wk.ownsRow (O + 4) 22 1 (.slice xl x cl) x sl := (h5.kept (row := none) (hd0) (by cases hv : (Value.slice xl x cl).ownBlock <;> simp)).kept hgr (.inr (own_far h5 (by omega)))
      have h5A := h5k.alloc (.cells #[.slice y m d] 22)
      obtain ⟨i0, hi, hz0, hz1, hz2⟩ := info_parts' infoS8
      have hu : Tryd.prog.underlying 113 = some (.slice 22) := by kernel_rfl
      have hnews : ∀ (j : Nat) u, ([Value.slice y m d] : List Value)[j]? = some u → (wk.alloc (.cells #[.slice y m d] 22)).cell? ((⟨wk.heap.size, 0, none⟩ : Addr).add j) = some u := fun j u hj => by
        cases j with
        | zero => simp at hj; subst hj; exact cell_of_row _ _ 0 _ _ _ (Blk.new wk 22 #[.slice y m d])
        | succ j => simp at hj
      obtain ⟨v', w5, hrun, hown5, hg5, _⟩ := run_append_own (P := Tryd.prog) (w := wk.alloc (.cells #[.slice y m d] 22)) (O + 4) 113 113 22 i0 (.slice none 0 0) 1 24 hu hi hz0 hz1 hz2 rfl (by decide) _ x sl h5A ⟨wk.heap.size, 0, none⟩ 1 1 [.slice y m d] rfl hnews (by intro u hu; simp at hu; subst hu; rfl) (by unfold maxLen; omega) (by omega) (by simp; omega)
      obtain ⟨xn, cn, rfl⟩ := own_slice hown5
      have hfl : (Value.slice xl x cl).ownBlock ≠ some (O + 1) := own_far h5 (by omega)
      have hfT : (Value.slice xl x cl).ownBlock ≠ some T := own_far h5 (by omega)
      have hfO : (Value.slice xl x cl).ownBlock ≠ some O := own_far h5 (by omega)
      have hf5 : (Value.slice xn (x + 1) cn).ownBlock ≠ some (O + 1) := own_far hown5 (by omega)
      have h4k := (h4.drew'.kept hgr (fun e => by injection e with e; omega)).alloc (.cells #[.slice y m d] 22)
      have h45 := h4k.kept hg5 (fun e => hfl e.symm)
      have h35 := ((h3.drew'.kept hgr (fun e => by injection e with e; omega)).alloc (.cells #[.slice y m d] 22)).kept hg5 (fun e => hfO e.symm)
      have h25 := (hTk.alloc (.cells #[.slice y m d] 22)).kept hg5 (fun e => hfT e.symm)
      have hG5 := grown_set' (grown_refl w5 (O + 1)) 0 (.slice xn (x + 1) cn)
      have hap := Ow.apart (hOw.kept' (World.grownBy_alloc wk (.cells #[.slice y m d] 22) none) (by cases hv : (Value.slice y m d).ownBlock <;> simp)) h5A (by decide)
      have hRk : RwA (wk.alloc (.cells #[.slice y m d] 22)) (O + 4) sl (yss.take x) := (((h6.kept (row := none) (hd0) (fun _ e => by cases e)).kept hgr (fun r e => by cases e; omega)).kept hgA (fun _ e => by cases e))
      have hR5 : RwA w5 (O + 4) sl (yss.take x) := ⟨hRk.1, fun i v zs p q => (hRk.2 i v zs p q).kept' hg5 (Ow.apart (hRk.2 i v zs p q) h5A (by decide))⟩
      have hO5 : Ow w5 (O + 4) (.slice y m d) ys := ((hOw.kept' (World.grownBy_alloc wk (.cells #[.slice y m d] 22) none) (by cases hv : (Value.slice y m d).ownBlock <;> simp)).kept' hg5 hap).mono (show O + 4 ≤ X.heap.size from hXs)
      have hYR := (hR5.add hO5).kept hG5 (fun r e => by cases e; omega)
      have hYo := hown5.kept hG5 (.inr hf5)
      have hYL : Blk (w5.setCell ⟨O + 1, 0, none⟩ (.slice xn (x + 1) cn)) (O + 1) 113 #[.slice xn (x + 1) cn] := heap_setCell_same _ (O + 1) 0 _ _ (.slice xn (x + 1) cn) h45
      have hYO := h35.kept hG5 (fun e => by injection e with e; omega)
      have hYT := h25.kept hG5 (fun e => by injection e with e; omega)
      have hown_lt : ∀ k, (Value.slice xl x cl).ownBlock = some k → O + 4 ≤ k := fun k e => (h5.lt k e).1
      have hB5 : Below T X w5 := (((Below.refl T X).drew.grown hgr (Nat.le_of_lt hTl2) (fun k e => by cases e; exact Nat.le_refl _)).grown hgA (by omega) (fun _ e => by cases e)).grown hg5 (by have := hgA.size; omega) (fun k e => by have := hown_lt k e; omega)
      have hBY : Below T X (w5.setCell ⟨O + 1, 0, none⟩ (.slice xn (x + 1) cn)) := hB5.grown hG5 (by have := hB5.size; omega) (fun k e => by cases e; omega)
      have hKd : KeptM (fun k => False ∨ k = W0.heap.size ∨ k = W0.heap.size + 1) X X.drew := KeptM.grown (row := none) (hd0) (fun _ e => by cases e)
      have hKY : KeptM (fun k => False ∨ k = W0.heap.size ∨ k = W0.heap.size + 1) X (w5.setCell ⟨O + 1, 0, none⟩ (.slice xn (x + 1) cn)) :=
        (((hKd.trans (KeptM.grown hgr (fun r e h => by cases e; rcases h with h | h | h; exact h; omega; omega))).trans (KeptM.grown hgA (fun _ e => by cases e))).trans (KeptM.grown hg5 (fun r e h => by have := hown_lt r e; rcases h with h | h | h; exact h; omega; omega))).trans (KeptM.grown hG5 (fun r e h => by cases e; rcases h with h | h | h; exact h; omega; omega))
      have hTT : toL (yss.take x) + ys.length = toL (yss.take (pre ++ [x]).length) := by rw [List.length_append, List.length_singleton, hplen, htk]
      have hys2 : yss.take x ++ [ys] = yss.take (pre ++ [x]).length := by rw [List.length_append, List.length_singleton, hplen, List.take_add_one, hys]; rfl
      have hlen2 : (pre ++ [x]).length = x + 1 := by rw [List.length_append, List.length_singleton, hplen]
      have hMI : MI T O yss w (pre ++ [x]) (w5.setCell ⟨O + 1, 0, none⟩ (.slice xn (x + 1) cn)) :=
        ⟨by rw [hlen2, List.range_succ, hpre], by rw [← hTT]; exact hYT, hYO, ⟨xn, cn, _, by rw [hlen2]; exact hYL, by rw [hlen2]; exact hYo, by rw [← hys2]; exact hYR⟩, h7.trans hBY, by have := hBY.size; omega, h9⟩
      have cL5 := cell_of_row w5 _ 0 _ _ _ h45
      have fL5 := frozen_of_row w5 _ 0 _ _ h45
      have HE := Lib.hid (And.intro hKY (And.intro hBY hMI))
      clear hKY hBY hMI hys2 hTT hlen2 hKd hB5 hown_lt hYT hYO hYL hYo hYR hO5 hR5 hRk hap hG5 h25 h35 h45 h4k hf5 hfO hfT hfl hg5 hown5 hnews hu hz2 hz1 hz0 hi h5A h5k hgA HF hOw hTk hgr h2 h3 h4 h5 h6 h7 hG hpre hplen hys htk htl HX HP HC
      refine wpAnyIn_ready (rs := [5]) (by kernel_rfl) (by simp) ?_
      refine AllReadyIn.cons rfl (fun K hK => ?_) AllReadyIn.nil
      refine wpIn_append_run (.tmp 9) (.tmp 13) 113 rfl (v := .slice xl x cl) (u := .slice (some ⟨wk.heap.size, 0, none⟩) 1 1) rfl rfl hrun ?_
      refine hK _ _ ?_
      clear hK K
      refine wpAnyIn_ready (rs := [6]) (by kernel_rfl) (by simp) ?_
      refine AllReadyIn.cons rfl (fun K hK => ?_) AllReadyIn.nil
      go_simp
      refine hK _ _ ?_
      clear hK K
      refine wpAnyIn_done (by kernel_rfl) ?_ _
      exact HE.out
end Go.Proofs.YtjmfnafbjfceoaaDoor
