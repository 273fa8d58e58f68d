/- big: Bits; power under way. -/
import Derived.Test.YtjkniebedgiclaaDoorOa
namespace Go.Proofs.YtjkniebedgiclaaDoor
open Go.RowKit Go.Shelf

theorem nil_nil (w : World) : (binOp .eql 22 (.slice none 0 0) (.slice none 0 0)).run Tryd.prog w = .ok (.bool true) w := by kernel_rfl
theorem some_nil (a : Addr) (n cap : Nat) (w : World) : (binOp .eql 22 (.slice (some a) n cap) (.slice none 0 0)).run Tryd.prog w = .ok (.bool false) w := by kernel_rfl
attribute [local go_sem] nil_nil some_nil
/-- Bytes laid behind an own row of bytes; they are some. -/
theorem wpList_appb {w : World} {ops : Array Oper} {rest : List Oper} {o : Oper} {a : Act} {Q : Exit → Act → World → Prop} (hgd : o.guard = none) (s x : Operand)
    (ho : o.op = .call { callee := .builtin .append, args := #[s, x], argTypes := #[22, 22] })
    (base : Nat) (l : List Nat) (hown : Ow w base (a.eval s) l) (B : Nat) (m : List Nat) (hx : Bto B w (a.eval x) m) (hm0 : m ≠ []) (hn : l.length + m.length ≤ 1000000) (hb : base ≤ w.heap.size)
    (h : ∀ y c w', Ow w' base (.slice y (l ++ m).length c) (l ++ m) → w.grownBy w' (a.eval s).ownBlock → wpList Tryd.prog ops Q rest (a.put o.dst (.slice y (l ++ m).length c)) w') : wpList Tryd.prog ops Q (o :: rest) a w := by
  obtain ⟨i0, hi, hz0, hz1, hz2⟩ := info_parts' infoU8
  have hu : Tryd.prog.underlying 22 = some (.slice 5) := by kernel_rfl
  obtain ⟨hm, y, cap, he, h3, h4, h5⟩ := hx
  obtain ⟨b, q, rfl, hbB, hbw, hc⟩ := h5 hm0
  refine wpList_append_own _ hgd s x 22 ho base 5 i0 (.int .u8 0) 1 1 hu hi hz0 hz1 hz2 rfl (by decide) _ l.length (bvs l) rfl hown.2 ⟨b, q, none⟩ m.length cap (bvs m) he (by rw [bvs_len]; omega) ?_ (bvs_one m) (by unfold maxLen; omega) (by omega) hb ?_
  · intro j u hj
    rw [bvs_get] at hj
    cases hmj : m[j]? with
    | none => rw [hmj] at hj; cases hj
    | some v =>
      rw [hmj] at hj
      cases hj
      rw [Go.WideShapes.add_plain]
      exact hc j v hmj
  · intro v' w' ho' hg _
    have hO : Ow w' base v' (l ++ m) := ⟨fun z hz => (List.mem_append.1 hz).elim (hown.1 z) (hm z), by rw [← bvs_app, List.length_append]; exact ho'⟩
    obtain ⟨z, c, rfl⟩ := hO.is
    exact h z c w' hO hg

set_option maxRecDepth 100000 in
set_option maxHeartbeats 2000000 in
theorem clone_any (B : Nat) (v : Value) (l : List Nat) (w : World) (hv : Btn B w v l) (hl : l.length ≤ 100000) :
    Calls Tryd.prog 26 #[v] w fun e w' => ∃ x c, e = .returned (.slice x l.length c) ∧ Ow w' w.heap.size (.slice x l.length c) l ∧ Below w.heap.size w w' := by
  by_cases hn : l = []
  · subst hn
    rw [hv.2 rfl]
    clear hv
    go_enter Tryd.func26, Tryd.ntmps26
    go_wp2_with fail
    go_ret
    exact ⟨_, _, rfl, Ow.nil _ _, Below.refl _ _⟩
  · obtain ⟨h1, x, c, rfl, h3, h4, h5⟩ := id hv.1
    obtain ⟨b, o, rfl, hb, hbw, hc⟩ := h5 hn
    have hO : Ow (w.alloc (.cells #[] 5)) w.heap.size (.slice (some ⟨w.heap.size, 0, none⟩) 0 0) [] := ⟨by simp, World.ownsRow_made w #[] 0 (Nat.le_refl _) (by unfold maxLen; omega) (by rfl)⟩
    have hW := balloc (Below.refl w.heap.size w) (.cells #[] 5)
    have H := Lib.hid (And.intro hO (And.intro (hv.1.new hW) (And.intro hW hn)))
    have hl2 := Lib.hid (show ([] : List Nat).length + l.length ≤ 1000000 by simp; omega)
    have hsz := Lib.hid (show w.heap.size ≤ (w.alloc (.cells #[] 5)).heap.size by simp)
    obtain ⟨m, hm⟩ : ∃ m, l.length = m := ⟨_, rfl⟩
    have HM := Lib.hid hm
    rw [hm] at H hl h3 ⊢
    clear hO hW hc h1 hb hbw h4 h5 hm hv hn
    go_enter Tryd.func26, Tryd.ntmps26
    go_wp2_with (first | (at_builtin; refine wpList_appb rfl _ _ rfl w.heap.size [] H.out.1 B l H.out.2.1 H.out.2.2.2 hl2.out hsz.out ?_; intro y c3 w3 hO3 hg3; have HO := Lib.hid (And.intro hO3 hg3); clear hO3 hg3) | fail)
    have hB3 := H.out.2.2.1.grown HO.out.2 (by simp) (fun r e => by cases e; exact Nat.le_refl _)
    have HE := Lib.hid (And.intro HO.out.1 hB3)
    clear hB3 HO
    rw [List.nil_append, HM.out] at HE
    rw [HM.out]
    go_ret
    exact ⟨_, _, rfl, HE.out⟩
theorem Ow.bto {X : World} {base : Nat} {v : Value} {l : List Nat} (h : Ow X base v l) : Bto X.heap.size X v l := h.bt.bto

set_option maxRecDepth 100000 in
set_option maxHeartbeats 2000000 in
theorem bits_any (B : Nat) (v : Value) (l : List Nat) (w : World) (hv : Bto B w v l) (hl : l.length ≤ 1000) :
    Calls Tryd.prog 15 #[v] w fun e w' => ∃ K x c, e = .returned (.func (.func 28) #[] #[.pointer (some ⟨K, 0, none⟩)]) ∧ w.heap.size ≤ K ∧ Blk w' K 22 #[.slice x (dz l).length c] ∧ Ow w' w.heap.size (.slice x (dz l).length c) (dz l) ∧ Below w.heap.size w w' := by
  have HB := Lib.hid (bare_any B v l w (by omega) hv)
  have hlz := dz_le l
  obtain ⟨r, hr⟩ : ∃ r, dz l = r := ⟨_, rfl⟩
  rw [hr] at HB hlz ⊢
  clear hv hr
  go_enter Tryd.func15, Tryd.ntmps15
  go_wp2_with (first | (go_at_call 27; refine HB.out.mono ?_; rintro e w1 ⟨⟨v', rfl, hv'⟩, rfl⟩; have HC := Lib.hid (clone_any B v' r w hv' (by omega)); clear hv') | (go_at_call 26; refine HC.out.mono ?_; rintro e w2 ⟨x, c, rfl, hO, hb⟩; have HO := Lib.hid (And.intro hO hb); clear hO hb) | fail)
  go_ret
  refine ⟨w2.heap.size, x, c, rfl, HO.out.2.size, Blk.new w2 _ _, HO.out.1.new ((Below.refl _ w2).alloc (Nat.le_refl _) _), balloc HO.out.2 _⟩
end Go.Proofs.YtjkniebedgiclaaDoor
