/- digest's reference: Padded, Block. -/
import Derived.Test.YtfknfopdinkmkaaHd
namespace Go.Proofs.Ytfknfopdinkmkaa
open Go.RowKit Go.Shelf

/-- The bytes with a one behind them, and noughts. -/
def pq (n : Nat) (f : Nat → Nat) (i : Nat) : Nat := if i < n then f i else if i = n then 1 else 0
def pqC (n : Nat) (f : Nat → Nat) (m : Nat) : List Value := (List.range m).map fun i => Value.int .u8 (pq n f i : Nat)
theorem pqC_len (n : Nat) (f : Nat → Nat) (m : Nat) : (pqC n f m).length = m := by unfold pqC; simp
theorem pqC_first (n : Nat) (f : Nat → Nat) : ((List.range n).map fun k => Value.int .u8 (f k : Nat)) ++ [.int .u8 1] = pqC n f (n + 1) := by
  unfold pqC
  rw [List.range_succ, List.map_append]
  congr 1
  · exact List.map_congr_left fun k hk => by unfold pq; rw [if_pos (List.mem_range.1 hk)]
  · unfold pq; simp
theorem pqC_succ (n : Nat) (f : Nat → Nat) (m : Nat) (h : n < m) : pqC n f (m + 1) = pqC n f m ++ [.int .u8 0] := by
  unfold pqC
  rw [List.range_succ, List.map_append]
  congr 1
  unfold pq
  simp only [List.map_cons, List.map_nil]
  rw [if_neg (by omega), if_neg (by omega)]; rfl
theorem pq_pd (n : Nat) (f : Nat → Nat) (i L : Nat) (hL : L = 136 * (n / 136 + 1)) (hi : i + 1 < L) : pq n f i = pdB n f i := by
  unfold pq pdB
  by_cases h : i < n
  · rw [if_pos h, if_pos h]
  · rw [if_neg h, if_neg h, if_neg (show ¬ i + 1 = 136 * (n / 136 + 1) by omega)]; rfl
def lenV : Value → Nat
  | .slice _ n _ => n
  | _ => 0
theorem grown_below {B : Nat} {w X Y : World} {row : Option Nat} (h : Below B w X) (hg : X.grownBy Y row) (hB : B ≤ w.heap.size) (hr : ∀ k, row = some k → B ≤ k) : Below B w Y := h.grown hg (Nat.le_trans hB h.size) hr
theorem pqC_get (n : Nat) (f : Nat → Nat) (m k : Nat) (h : k < m) : (pqC n f m)[k]? = some (.int .u8 (pq n f k : Nat)) := by unfold pqC; rw [List.getElem?_map, List.getElem?_range h]; rfl
theorem pq_at {n : Nat} {f : Nat → Nat} {i : Nat} (h : n ≤ i) : pq n f i = (if i = n then 1 else 0) := by unfold pq; rw [if_neg (by omega)]
theorem pdB_at {n : Nat} {f : Nat → Nat} {i : Nat} (h : n ≤ i) (h2 : i + 1 = 136 * (n / 136 + 1)) : pdB n f i = (if i = n then 1 else 0) + 128 := by unfold pdB; rw [if_neg (by omega), if_pos h2]
theorem pq_lt {n : Nat} {f : Nat → Nat} (hf : ∀ k, k < n → f k < 256) (i : Nat) : pq n f i < 256 := by
  unfold pq
  by_cases h : i < n
  · rw [if_pos h]; exact hf i h
  · rw [if_neg h]; split <;> omega
theorem owns_slice {X : World} {base : Nat} {e : TypeId} {size : Nat} {v : Value} {n : Nat} {xs : List Value} (h : X.ownsRow base e size v n xs) : ∃ x cap, v = .slice x n cap ∧ (0 < n → ∃ g, x = some ⟨g, 0, none⟩ ∧ base ≤ g ∧ g < X.heap.size) := by
  rcases h.2 with ⟨h1, h2⟩ | ⟨g, cap, cur, hv, hb, hg, r⟩
  · exact ⟨none, 0, by rw [h1, h2], fun h => by omega⟩
  · exact ⟨some ⟨g, 0, none⟩, cap, hv, fun _ => ⟨g, rfl, hb, (Array.getElem?_eq_some_iff.1 hg).1⟩⟩
theorem wpList_append_run {P : Program} {ops : Array Oper} {rest : List Oper} {o : Oper} {a : Act} {w : World} {Q : Exit → Act → World → Prop} (hgd : o.guard = none) (s x : Operand) (t : TypeId)
    (ho : o.op = .call { callee := .builtin .append, args := #[s, x], argTypes := #[t, t] }) (vs vx v' : Value) (w' : World) (hs : a.eval s = vs) (hx : a.eval x = vx)
    (hr : (Builtin.append_ #[t, t] o.type #[vs, vx]).run P w = .ok v' w') (h : wpList P ops Q rest (a.put o.dst v') w') : wpList P ops Q (o :: rest) a w :=
  wpList_plain hgd fun K hK => by
    unfold Oper.wp execOp
    simp only [ho, resolve, invoke, builtin, Sem.run_bind, Sem.run_pure, Result.andThen_ok, List.map_toArray, List.map_cons, List.map_nil, hs, hx, hr]
    exact hK _ _ h
attribute [local irreducible] Bc pqC pdB pq
set_option maxRecDepth 100000 in
set_option maxHeartbeats 4000000 in
theorem rpad_any (s : Sl) (hv : (s.v = .slice none 0 0 ∧ s.n = 0) ∨ ∃ a cap, s.v = .slice (some a) s.n cap) (hn : s.n ≤ 1000000) (w : World) (hs : SlAt w s) :
    Calls Try.prog 10 #[s.v] w fun e w' => ∃ v', e = .returned v' ∧ SlB w'.heap.size w' ⟨v', 136 * (s.n / 136 + 1), pdB s.n s.f⟩ ∧ (∃ g cap, v' = .slice (some ⟨g, 0, none⟩) (136 * (s.n / 136 + 1)) cap) ∧ Below w.heap.size w w' := by
  obtain ⟨i0, hi, hz0, hz1, hz2⟩ := info_parts' infoU8
  have hu : Try.prog.underlying 22 = some (.slice 5) := by kernel_rfl
  have hf : ∀ k, k < s.n → s.f k < 256 := fun k hk => by
    obtain ⟨x, cap', h1, _, _, h4⟩ := hs
    obtain ⟨b, o, e, hb, hc⟩ := h4 (by omega)
    exact (hc k hk).1
  -- the bytes, as the appended row
  have hcase : ∃ x cap, s.v = .slice x s.n cap ∧ ((x = none ∧ s.n = 0 ∧ cap = 0) ∨ ∃ a, x = some a ∧ ∀ j u, ((List.range s.n).map fun k => Value.int .u8 (s.f k : Nat))[j]? = some u → w.cell? (a.add j) = some u) := by
    rcases hv with ⟨hv, h0⟩ | ⟨a, cap, hv⟩
    · exact ⟨none, 0, by rw [hv, h0], .inl ⟨rfl, h0, rfl⟩⟩
    · refine ⟨some a, cap, hv, .inr ⟨a, rfl, fun j u hj => ?_⟩⟩
      obtain ⟨x, cap', h1, _, _, h4⟩ := hs
      rw [hv] at h1
      cases h1
      rw [List.getElem?_map] at hj
      by_cases hjn : j < s.n
      · obtain ⟨b, o, e, hb, hc⟩ := h4 (by omega)
        cases e
        rw [List.getElem?_range hjn] at hj
        cases hj
        rw [Go.WideShapes.add_plain]
        exact (hc j hjn).2
      · rw [List.getElem?_eq_none (by simp; omega)] at hj; cases hj
  obtain ⟨x, cap, hv2, hcase⟩ := hcase
  rw [hv2]
  obtain ⟨f, hff⟩ : ∃ f, s.f = f := ⟨_, rfl⟩
  obtain ⟨n, hnn⟩ : ∃ n, s.n = n := ⟨_, rfl⟩
  rw [hnn, hff] at hcase
  rw [hnn] at hn
  rw [hnn, hff] at hf ⊢
  clear hs hv hv2 hnn hff
  have hW := balloc (Below.refl w.heap.size w) (.cells #[] 5)
  have hown : (w.alloc (.cells #[] 5)).ownsRow w.heap.size 5 1 (.slice (some ⟨w.heap.size, 0, none⟩) 0 0) 0 [] := World.ownsRow_made w #[] 0 (Nat.le_refl _) (by unfold maxLen; omega) (by rfl)
  obtain ⟨v1, w2, hap, hown2, hgrow⟩ : ∃ v1 w2, (Builtin.append_ #[22, 22] 22 #[.slice (some ⟨w.heap.size, 0, none⟩) 0 0, .slice x n cap]).run Try.prog (w.alloc (.cells #[] 5)) = .ok v1 w2 ∧ w2.ownsRow w.heap.size 5 1 v1 n ((List.range n).map fun k => Value.int .u8 (f k : Nat)) ∧ (w.alloc (.cells #[] 5)).grownBy w2 (some w.heap.size) := by
    rcases hcase with ⟨rfl, rfl, rfl⟩ | ⟨a, rfl, ha⟩
    · exact ⟨.slice (some ⟨w.heap.size, 0, none⟩) 0 0, _, by kernel_rfl, hown, ⟨rfl, rfl, rfl, Nat.le_refl _, fun _ _ _ => rfl⟩⟩
    · obtain ⟨v', w', h1, h2, h3, _⟩ := run_append_own (P := Try.prog) (w.alloc (.cells #[] 5)) w.heap.size 22 22 5 i0 (.int .u8 0) 1 1 hu hi hz0 hz1 hz2 rfl (by decide) _ 0 [] hown a n cap ((List.range n).map fun k => Value.int .u8 (f k : Nat))
        (by simp) (fun j u hj => ((balloc (Below.refl w.heap.size w) (.cells #[] 5)).cell (World.block_lt_of_cell? w _ (ha j u hj))).trans (ha j u hj)) (fun u hu => by simp only [List.mem_map] at hu; obtain ⟨k, _, rfl⟩ := hu; rfl) (by unfold maxLen; omega) (by omega) (by simp)
      rw [Nat.zero_add, List.nil_append] at h2
      exact ⟨v', w', h1, h2, h3⟩
  have hB2 : Below w.heap.size w w2 := hW.grown hgrow (by simp) (fun k e => by cases e; exact Nat.le_refl _)
  have HB := Lib.hid hB2
  have hsz2 := hB2.size
  clear hown hgrow hB2 hW hcase
  obtain ⟨L, hL⟩ : ∃ L, L = 136 * (n / 136 + 1) := ⟨_, rfl⟩
  rw [← hL]
  have HL := Lib.hid hL
  have hLn : n + 1 ≤ L := by omega
  have hLb : L ≤ 1000136 := by omega
  clear hL
  have hbase := Lib.hid (And.intro hi (And.intro hz0 (And.intro hz1 hz2)))
  have HF := Lib.hid hf
  clear hf
  go_enter Try.func10, Try.ntmps10
  go_wp2_with (first
    | (at_builtin; refine wpList_append_run rfl _ _ 22 rfl _ _ v1 w2 rfl rfl hap ?_)
    | (at_builtin; refine wpList_append_own _ rfl _ _ 22 rfl w.heap.size 5 i0 (.int .u8 0) 1 1 hu hi hz0 hz1 hz2 rfl (by decide) _ _ _ rfl (hown2.alloc _) ⟨w2.heap.size, 0, none⟩ 1 1 [.int .u8 1] rfl rfl ?c1 ?c2 ?c3 ?c4 ?c5 ?_)
    | fail)
  case c1 =>
    intro j v hj
    have hN := Blk.new w2 5 #[.int .u8 1]
    rcases j with _ | j
    · simp at hj; subst hj; exact cell_of_row _ _ 0 _ _ _ hN
    · simp at hj
  case c2 => exact fun u hu => by simp at hu; subst hu; rfl
  case c3 => unfold maxLen; omega
  case c4 => omega
  case c5 => simp; omega
  intro v3 w3 hown3 hgrow3 _
  rw [pqC_first] at hown3
  have hB3 : Below w.heap.size w w3 := (balloc HB.out (.cells #[.int .u8 1] 5)).grown hgrow3 (by simp; omega) (fun k e => (((hown2.alloc (.cells #[.int .u8 1] 5)).lt k e).1))
  have HX := Lib.hid (And.intro hown3 hB3)
  clear hown3 hB3 hgrow3 hown2 HB hap hsz2 hi hz0 hz1 hz2
  go_wp2_with fail
  go_loopw [3] (fun v wr => ∃ m : Nat, n + 1 ≤ m ∧ m ≤ L ∧ wr.ownsRow w.heap.size 5 1 v m (pqC n f m) ∧ Below w.heap.size w wr) (fun v _ => L - lenV v)
  case atStart => exact ⟨n + 1, by omega, by omega, HX.out⟩
  case round =>
    clear HX
    obtain ⟨m, hm1, hm2, hown, hB⟩ := hrel
    obtain ⟨x, cap, hv, hx⟩ := owns_slice hown
    subst hv
    obtain ⟨g, rfl, hgb, hgl⟩ := hx (by omega)
    have d1 : (m : Int).tmod 136 = ((m % 136 : Nat) : Int) := rfl
    by_cases hmL : m = L
    · have hL := HL.out
      have hr0 : m % 136 = 0 := by omega
      rw [hr0] at d1
      obtain ⟨_, hrow⟩ := hown
      rcases hrow with ⟨h, _⟩ | ⟨g', cap', cur, hv, hb', hg, hnc, hcm, hcs, htk⟩
      · cases h
      cases hv
      obtain ⟨e, he⟩ : ∃ e, pq n f (m - 1) = e := ⟨_, rfl⟩
      have he2 : e = (if m - 1 = n then 1 else 0) := by rw [← he, pq_at (by omega)]
      have hce : cur[m - 1]? = some (.int .u8 (e : Nat)) := by
        have h1 : (cur.toList.take (m * 1))[m - 1]? = (pqC n f m)[m - 1]? := by rw [htk]
        rw [pqC_get n f m (m - 1) (by omega), he, List.getElem?_take, if_pos (by omega)] at h1
        simpa using h1
      have hor : bits .or .u8 (e : Nat) 128 = ((e + 128 : Nat) : Int) := by
        rw [he2]
        by_cases h1 : m - 1 = n
        · rw [if_pos h1]; decide +kernel
        · rw [if_neg h1]; decide +kernel
      have cC := (cell_of_row wr g (m - 1) _ _ _ hg).trans hce
      have fC := frozen_of_row wr g (m - 1) _ _ hg
      have hG := grown_set' (grown_refl wr g) (m - 1) (.int .u8 ((e + 128 : Nat) : Int))
      have hB2 : Below w.heap.size w (wr.setCell ⟨g, m - 1, none⟩ (.int .u8 ((e + 128 : Nat) : Int))) := hB.grown hG hB.size (fun k e => by cases e; exact hgb)
      have hS := heap_setCell_same wr g (m - 1) _ _ (.int .u8 ((e + 128 : Nat) : Int)) hg
      have hw1 : IntKind.i64.wrap ((m : Int) - 1) = ((m - 1 : Nat) : Int) := by rw [IntWalk.i64_in _ (by omega)]; omega
      have hix0 : (0 : Int) ≤ ((m - 1 : Nat) : Int) := by omega
      have hix1 : ((m - 1 : Nat) : Int) < (m : Int) := by omega
      have hsl : SlB (wr.setCell ⟨g, m - 1, none⟩ (.int .u8 ((e + 128 : Nat) : Int))).heap.size (wr.setCell ⟨g, m - 1, none⟩ (.int .u8 ((e + 128 : Nat) : Int))) ⟨.slice (some ⟨g, 0, none⟩) m cap, m, pdB n f⟩ := by
        refine ⟨_, _, rfl, hnc, by unfold maxLen at hcm; omega, fun _ => ⟨g, 0, rfl, (Array.getElem?_eq_some_iff.1 hS).1, fun k hk => ?_⟩⟩
        have hk' : k < m := hk
        show pdB n f k < 256 ∧ (wr.setCell ⟨g, m - 1, none⟩ (.int .u8 ((e + 128 : Nat) : Int))).cell? ⟨g, 0 + k, none⟩ = some (.int .u8 (pdB n f k : Nat))
        by_cases h1 : k = m - 1
        · subst h1
          have h2 : pdB n f (m - 1) = e + 128 := by rw [pdB_at (by omega) (by omega), he2]
          rw [h2]
          refine ⟨by rw [he2]; split <;> omega, ?_⟩
          rw [Nat.zero_add, cell_of_row _ _ (m - 1) _ _ _ hS, Array.getElem?_setIfInBounds, if_pos rfl, if_pos (Array.getElem?_eq_some_iff.1 hce).1]
        · have h2 := pq_pd n f k m (by omega) (by omega)
          have h3 : cur[k]? = some (.int .u8 (pq n f k : Nat)) := by
            have h1 : (cur.toList.take (m * 1))[k]? = (pqC n f m)[k]? := by rw [htk]
            rw [pqC_get n f m k hk', List.getElem?_take, if_pos (by omega)] at h1
            simpa using h1
          rw [← h2]
          refine ⟨pq_lt HF.out k, ?_⟩
          rw [Nat.zero_add, cell_of_row _ _ k _ _ _ hS, Array.getElem?_setIfInBounds, if_neg (by omega), h3]
      have HE := Lib.hid (And.intro hsl hB2)
      clear hsl hB2 hS hG hg hnc hcm hcs htk hce he he2 hB hu hL
      subst hmL
      obtain ⟨i1, hi1⟩ : ∃ i, m - 1 = i := ⟨_, rfl⟩
      rw [hi1] at cC fC hw1 hix0 hix1 HE
      go_wp2_with fail
      go_ret
      exact ⟨_, rfl, HE.out.1, ⟨g, cap, rfl⟩, HE.out.2⟩
    · have hr0 : m % 136 ≠ 0 := by have := HL.out; omega
      obtain ⟨r, hr⟩ : ∃ r, m % 136 = r := ⟨_, rfl⟩
      rw [hr] at d1 hr0
      have hr1 : ((r : Int) != 0) = true := by simp; omega
      have hcl := hB.size
      obtain ⟨hi, hz0, hz1, hz2⟩ := hbase.out
      have HH := Lib.hid (And.intro hB (And.intro hm1 (And.intro hm2 (And.intro hmL hgb))))
      clear hr hx hB
      go_wp2_with (first
        | (at_builtin; refine wpList_append_own _ rfl _ _ 22 rfl w.heap.size 5 i0 (.int .u8 0) 1 1 hu hi hz0 hz1 hz2 rfl (by decide) _ _ _ rfl (hown.alloc _) ⟨wr.heap.size, 0, none⟩ 1 1 [.int .u8 0] rfl rfl ?c1 ?c2 ?c3 ?c4 ?c5 ?_)
        | fail)
      case c1 =>
        intro j v hj
        have hN := Blk.new wr 5 #[.int .u8 0]
        rcases j with _ | j
        · simp at hj; subst hj; exact cell_of_row _ _ 0 _ _ _ hN
        · simp at hj
      case c2 => exact fun u hu => by simp at hu; subst hu; rfl
      case c3 => unfold maxLen; omega
      case c4 => omega
      case c5 => simp; omega
      intro v4 w4 hown4 hgrow4 _
      rw [← pqC_succ n f m (by omega)] at hown4
      obtain ⟨hB, hm1, hm2, hmL, hgb⟩ := HH.out
      have hB4 : Below w.heap.size w w4 := (balloc hB (.cells #[.int .u8 0] 5)).grown hgrow4 (by simp; omega) (fun k e => (((hown.alloc (.cells #[.int .u8 0] 5)).lt k e).1))
      have hlv : lenV v4 = m + 1 := by
        obtain ⟨x, cap, hv, _⟩ := owns_slice hown4
        rw [hv]; rfl
      have HE := Lib.hid (And.intro hown4 hB4)
      clear hown4 hB4 hgrow4 hown hB hi hz0 hz1 hz2 hu HH
      go_wp2_with fail
      go_roundw
      case rel => exact ⟨m + 1, by omega, by omega, HE.out.1, HE.out.2⟩
      case measure => rw [hlv]; show L - (m + 1) < L - m; omega
end Go.Proofs.Ytfknfopdinkmkaa
