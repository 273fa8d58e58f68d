/- Texts laid into one: Qb. -/
import Derived.Test.YtcfnhilcpfiocaaSua
import Derived.Test.YtcfnhilcpfiocaaStq
import Derived.OwnWalk
/- slot's reference: rows in memory, a key's row. -/
namespace Go.Proofs.Ytcfnhilcpfiocaa
open Go.RowKit Go.Shelf Go.ChangeMaps Go.MapKept

/-- A row: its key, its value now, what that was. -/
abbrev Rw := Nat × (Nat × Nat) × (Nat × Nat)
abbrev rvA (r : Rw) : Array Value := #[.int .u64 (lb r.1 0), .int .u64 (lb r.1 1), .int .u64 (lb r.1 2), .int .u64 (lb r.1 3), .int .u64 (lb r.2.1.1 0), .int .u64 (lb r.2.1.1 1), .int .u64 (lb r.2.1.1 2), .int .u64 (lb r.2.1.1 3), .int .u64 (r.2.1.2 : Nat), .int .u64 (lb r.2.2.1 0), .int .u64 (lb r.2.2.1 1), .int .u64 (lb r.2.2.1 2), .int .u64 (lb r.2.2.1 3), .int .u64 (r.2.2.2 : Nat)]
def rvs (l : List Rw) : List Value := l.flatMap fun r => (rvA r).toList
theorem rvs_len (l : List Rw) : (rvs l).length = l.length * 14 := by
  induction l with
  | nil => rfl
  | cons a l ih =>
    show (_ :: _ :: _ :: _ :: _ :: _ :: _ :: _ :: _ :: _ :: _ :: _ :: _ :: _ :: rvs l).length = _
    simp only [List.length_cons, ih]; omega
theorem rvs_app (l m : List Rw) : rvs l ++ rvs m = rvs (l ++ m) := by unfold rvs; rw [List.flatMap_append]
theorem rvs_get (l : List Rw) : ∀ k j, j < 14 → (rvs l)[k * 14 + j]? = (l[k]?).bind fun r => (rvA r)[j]? := by
  induction l with
  | nil => intro k j _; simp [rvs]
  | cons a l ih =>
    intro k j hj
    cases k with
    | zero =>
      rcases j with _ | _ | _ | _ | _ | _ | _ | _ | _ | _ | _ | _ | _ | _ | j
      · rfl
      · rfl
      · rfl
      · rfl
      · rfl
      · rfl
      · rfl
      · rfl
      · rfl
      · rfl
      · rfl
      · rfl
      · rfl
      · rfl
      · omega
    | succ k =>
      show (_ :: _ :: _ :: _ :: _ :: _ :: _ :: _ :: _ :: _ :: _ :: _ :: _ :: _ :: rvs l)[(k + 1) * 14 + j]? = _
      rw [show (k + 1) * 14 + j = (k * 14 + j) + 1 + 1 + 1 + 1 + 1 + 1 + 1 + 1 + 1 + 1 + 1 + 1 + 1 + 1 by omega]
      simp only [List.getElem?_cons_succ]
      exact ih k j hj
def okR (r : Rw) : Prop := r.1 < MM ∧ okP r.2.1 ∧ okP r.2.2
/-- Rows that the call owns. -/
def OwR (X : World) (base : Nat) (v : Value) (l : List Rw) : Prop := (∀ r ∈ l, okR r) ∧ X.ownsRow base 59 14 v l.length (rvs l)
theorem OwR.is {X : World} {base : Nat} {v : Value} {l : List Rw} (h : OwR X base v l) : ∃ x c, v = .slice x l.length c := by
  rcases h.2.2 with ⟨rfl, hn⟩ | ⟨g, cap, cur, rfl, _⟩
  · exact ⟨none, 0, by rw [hn]⟩
  · exact ⟨_, _, rfl⟩
theorem OwR.nil (X : World) (base : Nat) : OwR X base (.slice none 0 0) [] := ⟨by simp, World.ownsRow_nil _ _ _ _⟩
theorem OwR.kept {X Y : World} {base : Nat} {v : Value} {l : List Rw} {row : Option Nat} (h : OwR X base v l) (hg : X.grownBy Y row) (hne : ∀ r, row = some r → r < base) : OwR Y base v l := by
  refine ⟨h.1, World.ownsRow.kept h.2 hg ?_⟩
  cases hv : v.ownBlock with
  | none => exact .inl rfl
  | some k => exact .inr fun e => by have := (h.2.lt k hv).1; have := hne k e.symm; omega
theorem OwR.keep {X Y : World} {base : Nat} {v : Value} {l : List Rw} (h : OwR X base v l) (k : Below X.heap.size X Y) : OwR Y base v l := h.kept (grown_new k) (fun r e => by cases e)
theorem OwR.at {X : World} {base : Nat} {v : Value} {l : List Rw} (h : OwR X base v l) {k : Nat} {r : Rw} (hk : l[k]? = some r) : ∃ b o c, v = .slice (some ⟨b, o, none⟩) l.length c ∧ b < X.heap.size ∧ ∀ j, j < 14 → X.cell? ⟨b, o + k * 14 + j, none⟩ = (rvA r)[j]? := by
  obtain ⟨y, c, rfl⟩ := h.is
  have h0 := h.2
  rcases h.2.2 with ⟨hv, hn⟩ | ⟨g, cap, cur, hv, _⟩
  · rw [List.eq_nil_of_length_eq_zero hn] at hk; cases hk
  · have hcell : ∀ j, j < 14 → X.cell? ⟨g, 0 + k * 14 + j, none⟩ = (rvA r)[j]? := fun j hj => by
      have hw : (rvs l)[k * 14 + j]? = (rvA r)[j]? := by rw [rvs_get l k j hj, hk]; rfl
      obtain ⟨u, hu⟩ : ∃ u, (rvA r)[j]? = some u := ⟨_, Array.getElem?_eq_getElem (by show j < 14; exact hj)⟩
      have h1 := World.ownsRow.cells h0 (g := g) (by rw [hv]; rfl) (k * 14 + j) u (hw.trans hu)
      rw [Addr.add_lit] at h1
      rw [hu, Nat.add_assoc]
      exact h1
    exact ⟨g, 0, c, by injection hv with e1 _ _; rw [e1], World.block_lt_of_cell? X _ (hcell 0 (by omega)), hcell⟩
/-- A key's row. -/
def rowN (l : List Rw) (n : Nat) : Rw := (l.find? fun r => r.1 == n).getD (n, (0, 0), (0, 0))
theorem rowN_hit {l : List Rw} {k n : Nat} {r : Rw} (hk : l[k]? = some r) (he : r.1 = n) (hp : ∀ x ∈ l.take k, x.1 ≠ n) : rowN l n = r := by
  unfold rowN
  obtain ⟨hl, hr⟩ := List.getElem?_eq_some_iff.1 hk
  have hd : l = l.take k ++ r :: l.drop (k + 1) := (List.take_append_drop k l).symm.trans (by rw [List.drop_eq_getElem_cons hl, hr])
  rw [hd, List.find?_append, List.find?_eq_none.2 (fun x hx => by simpa using hp x hx)]
  simp [he]
theorem rowN_miss {l : List Rw} {n : Nat} (hp : ∀ x ∈ l, x.1 ≠ n) : rowN l n = (n, (0, 0), (0, 0)) := by
  unfold rowN
  rw [List.find?_eq_none.2 (fun x hx => by simpa using hp x hx)]; rfl

end Go.Proofs.Ytcfnhilcpfiocaa

/- slot's reference: a key's row. -/
namespace Go.Proofs.Ytcfnhilcpfiocaa
open Go.RowKit Go.Shelf Go.ChangeMaps Go.MapKept

theorem eqWs (n m : Nat) (hn : n < MM) (hm : m < MM) (w : World) : (binOp .eql 25 (W n) (W m)).run Try.prog w = .ok (.bool (n == m)) w := by
  rw [run_eql_struct, show (10000 : Nat) = 9998 + 1 + 1 from rfl, equalIn_word, all4 n m hn hm]; rfl
theorem info_row : (Try.prog.info? 59).map (·.size) = some 14 := by kernel_rfl
theorem ret_row {fn : Func} {p : Tmp} {tmps : Array Value} {X : World} {g : Nat} {r : Rw} (h : fn.results = #[.cell p 59]) (hp : tmps.getD p undef = .pointer (some ⟨g, 0, none⟩)) (hb : Blk X g 59 (rvA r)) : (results fn tmps).run Try.prog X = .ok (.agg (rvA r)) X :=
  results_cell_row h _ _ g 59 (rvA r) (0, 0) _ hp hb Try.underlying59 rfl (by rw [info_row]; rfl)
theorem fill14 {X : World} {R : Nat} {t : TypeId} (v0 v1 v2 v3 v4 v5 v6 v7 v8 v9 v10 v11 v12 v13 : Value) (h : Blk X R t #[.int .u64 0, .int .u64 0, .int .u64 0, .int .u64 0, .int .u64 0, .int .u64 0, .int .u64 0, .int .u64 0, .int .u64 0, .int .u64 0, .int .u64 0, .int .u64 0, .int .u64 0, .int .u64 0]) : Blk ((((((((((((((X.setCell ⟨R, 0, none⟩ v0).setCell ⟨R, 1, none⟩ v1).setCell ⟨R, 2, none⟩ v2).setCell ⟨R, 3, none⟩ v3).setCell ⟨R, 4, none⟩ v4).setCell ⟨R, 5, none⟩ v5).setCell ⟨R, 6, none⟩ v6).setCell ⟨R, 7, none⟩ v7).setCell ⟨R, 8, none⟩ v8).setCell ⟨R, 9, none⟩ v9).setCell ⟨R, 10, none⟩ v10).setCell ⟨R, 11, none⟩ v11).setCell ⟨R, 12, none⟩ v12).setCell ⟨R, 13, none⟩ v13) R t #[v0, v1, v2, v3, v4, v5, v6, v7, v8, v9, v10, v11, v12, v13] := by
  have h' := (heap_setCell_same _ _ 13 _ _ v13 (heap_setCell_same _ _ 12 _ _ v12 (heap_setCell_same _ _ 11 _ _ v11 (heap_setCell_same _ _ 10 _ _ v10 (heap_setCell_same _ _ 9 _ _ v9 (heap_setCell_same _ _ 8 _ _ v8 (heap_setCell_same _ _ 7 _ _ v7 (heap_setCell_same _ _ 6 _ _ v6 (heap_setCell_same _ _ 5 _ _ v5 (heap_setCell_same _ _ 4 _ _ v4 (heap_setCell_same _ _ 3 _ _ v3 (heap_setCell_same _ _ 2 _ _ v2 (heap_setCell_same _ _ 1 _ _ v1 (heap_setCell_same _ _ 0 _ _ v0 h))))))))))))))
  unfold Blk
  simpa only [List.setIfInBounds_toArray, List.set_cons_zero, List.set_cons_succ] using h'
set_option maxRecDepth 100000 in
set_option maxHeartbeats 2000000 in
theorem row_any (base : Nat) (v : Value) (l : List Rw) (n : Nat) (hn : n < MM) (w : World) (h : OwR w base v l) (hll : l.length ≤ 1000000) :
    Calls Try.prog 28 #[.agg #[v], W n] w fun e w' => e = .returned (.agg (rvA (rowN l n))) ∧ Below w.heap.size w w' := by
  obtain ⟨xl, cl, rfl⟩ := h.is
  obtain ⟨W1, hW1⟩ : ∃ W1, ((w.alloc (.cells #[.slice xl l.length cl] 31)).alloc (.cells (Wc n) 25)).alloc (.cells #[.int .u64 0, .int .u64 0, .int .u64 0, .int .u64 0, .int .u64 0, .int .u64 0, .int .u64 0, .int .u64 0, .int .u64 0, .int .u64 0, .int .u64 0, .int .u64 0, .int .u64 0, .int .u64 0] 59) = W1 := ⟨_, rfl⟩
  have hB : Below w.heap.size w W1 := by rw [← hW1]; exact balloc (balloc (balloc (Below.refl _ _) _) _) _
  have b0 : Blk W1 w.heap.size 31 #[.slice xl l.length cl] := by rw [← hW1]; exact ((Blk.new _ _ _).alloc _).alloc _
  have b1 : Blk W1 (w.heap.size + 1) 25 (Wc n) := by rw [← hW1]; exact (Blk.newS _ _ _ _).alloc _
  have b2 : Blk W1 (w.heap.size + 1 + 1) 59 #[.int .u64 0, .int .u64 0, .int .u64 0, .int .u64 0, .int .u64 0, .int .u64 0, .int .u64 0, .int .u64 0, .int .u64 0, .int .u64 0, .int .u64 0, .int .u64 0, .int .u64 0, .int .u64 0] := by rw [← hW1]; have := Blk.newS (w.alloc (.cells #[.slice xl l.length cl] 31)) (.cells (Wc n) 25) 59 #[.int .u64 0, .int .u64 0, .int .u64 0, .int .u64 0, .int .u64 0, .int .u64 0, .int .u64 0, .int .u64 0, .int .u64 0, .int .u64 0, .int .u64 0, .int .u64 0, .int .u64 0, .int .u64 0]; simpa using this
  have hO := h.keep hB
  have HW := Lib.hid hW1
  obtain ⟨N, hN⟩ : ∃ N, l.length = N := ⟨_, rfl⟩
  have HN := Lib.hid hN
  have sK : ∀ w', Below W1.heap.size W1 w' → w'.cell? ⟨w.heap.size, 0, none⟩ = some (.slice xl N cl) := fun w' q => by rw [← HN.out]; exact cell_of_row _ _ 0 _ _ _ (b0.keep q)
  have k0 : ∀ w', Below W1.heap.size W1 w' → w'.cell? ⟨w.heap.size + 1, 0, none⟩ = some (.int .u64 (lb n 0)) := fun w' q => cell_of_row _ _ 0 _ _ _ (b1.keep q)
  have k1 : ∀ w', Below W1.heap.size W1 w' → w'.cell? ⟨w.heap.size + 1, 1, none⟩ = some (.int .u64 (lb n 1)) := fun w' q => cell_of_row _ _ 1 _ _ _ (b1.keep q)
  have k2 : ∀ w', Below W1.heap.size W1 w' → w'.cell? ⟨w.heap.size + 1, 2, none⟩ = some (.int .u64 (lb n 2)) := fun w' q => cell_of_row _ _ 2 _ _ _ (b1.keep q)
  have k3 : ∀ w', Below W1.heap.size W1 w' → w'.cell? ⟨w.heap.size + 1, 3, none⟩ = some (.int .u64 (lb n 3)) := fun w' q => cell_of_row _ _ 3 _ _ _ (b1.keep q)
  have HA := Lib.hid (And.intro hO (And.intro hn (And.intro hB b2)))
  rw [hN] at hll ⊢
  clear h hB b0 b1 b2 hO hW1 hn hN
  go_enter Try.func28, Try.ntmps28
  go_upto_region 1 with fail
  have hW2 := HW.out
  rw [HN.out] at hW2
  rw [hW2]
  clear hW2
  go_wp2_with fail
  go_loopw [5] (fun i wr => ∃ k : Nat, i = .int .i64 k ∧ k ≤ N ∧ (∀ x ∈ l.take k, x.1 ≠ n) ∧ Below W1.heap.size W1 wr) (fun i _ => N - (intOf i).toNat)
  case atStart => exact ⟨0, rfl, Nat.zero_le _, fun x h => (by cases h), Below.refl _ _⟩
  case round =>
    obtain ⟨k, rfl, hk, hpre, hbl⟩ := hrel
    by_cases hlt : k < N
    · have hltI : (k : Int) < (N : Int) := by omega
      have hk0 : ¬ (k : Int) < 0 := by omega
      obtain ⟨r, hr⟩ : ∃ r, l[k]? = some r := ⟨_, List.getElem?_eq_getElem (by rw [HN.out]; exact hlt)⟩
      obtain ⟨b, o, c2, e, hbl1, hcell⟩ := HA.out.1.at hr
      injection e with e1 e2 e3
      subst e1
      have hcl : ∀ w', Below W1.heap.size W1 w' → ∀ j, j < 14 → w'.cell? ⟨b, o + k * 14 + j, none⟩ = (rvA r)[j]? := fun w' q j hj => (q.cell (p := ⟨b, o + k * 14 + j, none⟩) hbl1).trans (hcell j hj)
      have d0 : ∀ w', Below W1.heap.size W1 w' → w'.cell? ⟨b, o + k * 14, none⟩ = some (.int .u64 (lb r.1 0)) := fun w' q => hcl w' q 0 (by omega)
      have d1 : ∀ w', Below W1.heap.size W1 w' → w'.cell? ⟨b, o + k * 14 + 1, none⟩ = some (.int .u64 (lb r.1 1)) := fun w' q => hcl w' q 1 (by omega)
      have d2 : ∀ w', Below W1.heap.size W1 w' → w'.cell? ⟨b, o + k * 14 + 2, none⟩ = some (.int .u64 (lb r.1 2)) := fun w' q => hcl w' q 2 (by omega)
      have d3 : ∀ w', Below W1.heap.size W1 w' → w'.cell? ⟨b, o + k * 14 + 3, none⟩ = some (.int .u64 (lb r.1 3)) := fun w' q => hcl w' q 3 (by omega)
      have d4 : ∀ w', Below W1.heap.size W1 w' → w'.cell? ⟨b, o + k * 14 + 4, none⟩ = some (.int .u64 (lb r.2.1.1 0)) := fun w' q => hcl w' q 4 (by omega)
      have d5 : ∀ w', Below W1.heap.size W1 w' → w'.cell? ⟨b, o + k * 14 + 5, none⟩ = some (.int .u64 (lb r.2.1.1 1)) := fun w' q => hcl w' q 5 (by omega)
      have d6 : ∀ w', Below W1.heap.size W1 w' → w'.cell? ⟨b, o + k * 14 + 6, none⟩ = some (.int .u64 (lb r.2.1.1 2)) := fun w' q => hcl w' q 6 (by omega)
      have d7 : ∀ w', Below W1.heap.size W1 w' → w'.cell? ⟨b, o + k * 14 + 7, none⟩ = some (.int .u64 (lb r.2.1.1 3)) := fun w' q => hcl w' q 7 (by omega)
      have d8 : ∀ w', Below W1.heap.size W1 w' → w'.cell? ⟨b, o + k * 14 + 8, none⟩ = some (.int .u64 (r.2.1.2 : Nat)) := fun w' q => hcl w' q 8 (by omega)
      have d9 : ∀ w', Below W1.heap.size W1 w' → w'.cell? ⟨b, o + k * 14 + 9, none⟩ = some (.int .u64 (lb r.2.2.1 0)) := fun w' q => hcl w' q 9 (by omega)
      have d10 : ∀ w', Below W1.heap.size W1 w' → w'.cell? ⟨b, o + k * 14 + 10, none⟩ = some (.int .u64 (lb r.2.2.1 1)) := fun w' q => hcl w' q 10 (by omega)
      have d11 : ∀ w', Below W1.heap.size W1 w' → w'.cell? ⟨b, o + k * 14 + 11, none⟩ = some (.int .u64 (lb r.2.2.1 2)) := fun w' q => hcl w' q 11 (by omega)
      have d12 : ∀ w', Below W1.heap.size W1 w' → w'.cell? ⟨b, o + k * 14 + 12, none⟩ = some (.int .u64 (lb r.2.2.1 3)) := fun w' q => hcl w' q 12 (by omega)
      have d13 : ∀ w', Below W1.heap.size W1 w' → w'.cell? ⟨b, o + k * 14 + 13, none⟩ = some (.int .u64 (r.2.2.2 : Nat)) := fun w' q => hcl w' q 13 (by omega)
      have hd : Below W1.heap.size W1 wr.drew := below_drew' hbl
      have d0w := d0 wr hbl
      have d1w := d1 wr hbl
      have d2w := d2 wr hbl
      have d3w := d3 wr hbl
      have d4w := d4 wr hbl
      have d5w := d5 wr hbl
      have d6w := d6 wr hbl
      have d7w := d7 wr hbl
      have d8w := d8 wr hbl
      have d9w := d9 wr hbl
      have d10w := d10 wr hbl
      have d11w := d11 wr hbl
      have d12w := d12 wr hbl
      have d13w := d13 wr hbl
      have sKw := sK wr hbl
      have k0w := k0 wr hbl
      have k1w := k1 wr hbl
      have k2w := k2 wr hbl
      have k3w := k3 wr hbl
      have d0d := d0 wr.drew hd
      have d1d := d1 wr.drew hd
      have d2d := d2 wr.drew hd
      have d3d := d3 wr.drew hd
      have sKd := sK wr.drew hd
      have k0d := k0 wr.drew hd
      have k1d := k1 wr.drew hd
      have k2d := k2 wr.drew hd
      have k3d := k3 wr.drew hd
      have hok := HA.out.1.1 r (List.mem_of_getElem? hr)
      have he := fun w' => eqWs r.1 n hok.1 HA.out.2.1 w'
      have g1 : IntKind.i64.wrap ((k : Int) + 1) = ((k + 1 : Nat) : Int) := IntWalk.i64_in _ (by omega)
      have HR := Lib.hid (And.intro hr (And.intro hpre hbl))
      clear hcl hcell hr hpre hok hbl1 e2 e3
      by_cases hrn : r.1 = n
      · rw [show (r.1 == n) = true by simp [hrn]] at he
        have HRN := Lib.hid hrn
        clear hrn
        go_upto_region 4 with fail
        go_quiet (fail)
        obtain ⟨V, hVe⟩ : ∃ V, wr.drewN nq = V := ⟨_, rfl⟩
        have hV : Below W1.heap.size W1 V := by rw [← hVe]; exact below_drewN HR.out.2.2 _
        rw [hVe]
        clear hVe
        have b2 := HA.out.2.2.2.keep hV
        have h14 : HelN 14 59 W1 (w.heap.size + 1 + 1) V := HelN.call hV ⟨grown_refl W1 _, _, rfl, HA.out.2.2.2⟩
        have c0 := cell_of_row _ _ 0 _ _ _ b2
        have f0 := frozen_of_row _ _ 0 _ _ b2
        have c1 := cell_of_row _ _ 1 _ _ _ b2
        have f1 := frozen_of_row _ _ 1 _ _ b2
        have c2 := cell_of_row _ _ 2 _ _ _ b2
        have f2 := frozen_of_row _ _ 2 _ _ b2
        have c3 := cell_of_row _ _ 3 _ _ _ b2
        have f3 := frozen_of_row _ _ 3 _ _ b2
        have c4 := cell_of_row _ _ 4 _ _ _ b2
        have f4 := frozen_of_row _ _ 4 _ _ b2
        have c5 := cell_of_row _ _ 5 _ _ _ b2
        have f5 := frozen_of_row _ _ 5 _ _ b2
        have c6 := cell_of_row _ _ 6 _ _ _ b2
        have f6 := frozen_of_row _ _ 6 _ _ b2
        have c7 := cell_of_row _ _ 7 _ _ _ b2
        have f7 := frozen_of_row _ _ 7 _ _ b2
        have c8 := cell_of_row _ _ 8 _ _ _ b2
        have f8 := frozen_of_row _ _ 8 _ _ b2
        have c9 := cell_of_row _ _ 9 _ _ _ b2
        have f9 := frozen_of_row _ _ 9 _ _ b2
        have c10 := cell_of_row _ _ 10 _ _ _ b2
        have f10 := frozen_of_row _ _ 10 _ _ b2
        have c11 := cell_of_row _ _ 11 _ _ _ b2
        have f11 := frozen_of_row _ _ 11 _ _ b2
        have c12 := cell_of_row _ _ 12 _ _ _ b2
        have f12 := frozen_of_row _ _ 12 _ _ b2
        have c13 := cell_of_row _ _ 13 _ _ _ b2
        have f13 := frozen_of_row _ _ 13 _ _ b2
        have t0 := d0 V hV
        have t1 := d1 V hV
        have t2 := d2 V hV
        have t3 := d3 V hV
        have t4 := d4 V hV
        have t5 := d5 V hV
        have t6 := d6 V hV
        have t7 := d7 V hV
        have t8 := d8 V hV
        have t9 := d9 V hV
        have t10 := d10 V hV
        have t11 := d11 V hV
        have t12 := d12 V hV
        have t13 := d13 V hV
        have tS := sK V hV
        go_wp2_with fail
        (try simp only [Exit.inBlock, Exit.then])
        refine bodyPost_ret (ret_row (r := r) rfl rfl (fill14 _ _ _ _ _ _ _ _ _ _ _ _ _ _ b2)) rfl ⟨by rw [rowN_hit HR.out.1 HRN.out HR.out.2.1], HelN.below (HelN.set (HelN.set (HelN.set (HelN.set (HelN.set (HelN.set (HelN.set (HelN.set (HelN.set (HelN.set (HelN.set (HelN.set (HelN.set (HelN.set h14 0 _) 1 _) 2 _) 3 _) 4 _) 5 _) 6 _) 7 _) 8 _) 9 _) 10 _) 11 _) 12 _) 13 _) HA.out.2.2.1 (Nat.le_refl _) (by omega)⟩
      · rw [show (r.1 == n) = false by simp [hrn]] at he
        have HRN := Lib.hid hrn
        clear hrn
        go_upto_region 4 with fail
        go_quiet (fail)
        go_wp2_with fail
        refine ⟨⟨k + 1, rfl, by omega, fun x hx => ?_, below_drewN HR.out.2.2 _⟩, by simp [intOf]; omega⟩
        rw [take_suc HR.out.1] at hx
        rcases List.mem_append.1 hx with h | h
        · exact HR.out.2.1 x h
        · simp at h; subst h; exact HRN.out
    · obtain rfl : k = N := by omega
      have hnl : ¬ ((k : Int) < (k : Int)) := by omega
      have HM := Lib.hid (show rowN l n = (n, (0, 0), (0, 0)) from rowN_miss (by rw [List.take_of_length_le (by rw [HN.out]; exact Nat.le_refl _)] at hpre; exact hpre))
      have l1 := sK wr hbl
      have hz : rvA (n, (0, 0), (0, 0)) = #[.int .u64 (lb n 0), .int .u64 (lb n 1), .int .u64 (lb n 2), .int .u64 (lb n 3), .int .u64 0, .int .u64 0, .int .u64 0, .int .u64 0, .int .u64 0, .int .u64 0, .int .u64 0, .int .u64 0, .int .u64 0, .int .u64 0] := by simp [lb0]
      obtain ⟨V, hVe⟩ : ∃ V, wr = V := ⟨_, rfl⟩
      have hV : Below W1.heap.size W1 V := by rw [← hVe]; exact hbl
      rw [hVe] at hbl l1 ⊢
      clear hVe
      have b2 := HA.out.2.2.2.keep hV
      have h14 : HelN 14 59 W1 (w.heap.size + 1 + 1) V := HelN.call hV ⟨grown_refl W1 _, _, rfl, HA.out.2.2.2⟩
      have c0 := cell_of_row _ _ 0 _ _ _ b2
      have f0 := frozen_of_row _ _ 0 _ _ b2
      have c1 := cell_of_row _ _ 1 _ _ _ b2
      have f1 := frozen_of_row _ _ 1 _ _ b2
      have c2 := cell_of_row _ _ 2 _ _ _ b2
      have f2 := frozen_of_row _ _ 2 _ _ b2
      have c3 := cell_of_row _ _ 3 _ _ _ b2
      have f3 := frozen_of_row _ _ 3 _ _ b2
      have c4 := cell_of_row _ _ 4 _ _ _ b2
      have f4 := frozen_of_row _ _ 4 _ _ b2
      have c5 := cell_of_row _ _ 5 _ _ _ b2
      have f5 := frozen_of_row _ _ 5 _ _ b2
      have c6 := cell_of_row _ _ 6 _ _ _ b2
      have f6 := frozen_of_row _ _ 6 _ _ b2
      have c7 := cell_of_row _ _ 7 _ _ _ b2
      have f7 := frozen_of_row _ _ 7 _ _ b2
      have c8 := cell_of_row _ _ 8 _ _ _ b2
      have f8 := frozen_of_row _ _ 8 _ _ b2
      have c9 := cell_of_row _ _ 9 _ _ _ b2
      have f9 := frozen_of_row _ _ 9 _ _ b2
      have c10 := cell_of_row _ _ 10 _ _ _ b2
      have f10 := frozen_of_row _ _ 10 _ _ b2
      have c11 := cell_of_row _ _ 11 _ _ _ b2
      have f11 := frozen_of_row _ _ 11 _ _ b2
      have c12 := cell_of_row _ _ 12 _ _ _ b2
      have f12 := frozen_of_row _ _ 12 _ _ b2
      have c13 := cell_of_row _ _ 13 _ _ _ b2
      have f13 := frozen_of_row _ _ 13 _ _ b2
      have t0 := k0 V hV
      have t1 := k1 V hV
      have t2 := k2 V hV
      have t3 := k3 V hV
      go_wp2_with fail
      (try simp only [Exit.inBlock, Exit.then])
      refine bodyPost_ret (ret_row (r := (n, (0, 0), (0, 0))) rfl rfl (by rw [hz]; exact fill14 _ _ _ _ _ _ _ _ _ _ _ _ _ _ b2)) rfl ⟨by rw [HM.out], HelN.below (HelN.set (HelN.set (HelN.set (HelN.set (HelN.set (HelN.set (HelN.set (HelN.set (HelN.set (HelN.set (HelN.set (HelN.set (HelN.set (HelN.set h14 0 _) 1 _) 2 _) 3 _) 4 _) 5 _) 6 _) 7 _) 8 _) 9 _) 10 _) 11 _) 12 _) 13 _) HA.out.2.2.1 (Nat.le_refl _) (by omega)⟩

end Go.Proofs.Ytcfnhilcpfiocaa

/- slot: the document's rows and the storage's maps, in plain lists. -/
namespace Go.Proofs.Ytcfnhilcpfiocaa
open Go.RowKit Go.Shelf

/-! The document's answers in plain lists. -/
abbrev Z2 : Nat × Nat := (0, 0)
def rowQ (l : List Rw) (n : Nat) : Option Rw := l.find? fun r => r.1 == n
theorem rowN_Q (l : List Rw) (n : Nat) : rowN l n = (rowQ l n).getD (n, Z2, Z2) := rfl
def midL (n : Nat) (v u : Nat × Nat) : List Rw := if v ≠ Z2 ∨ u ≠ Z2 then [(n, v, u)] else []
def putL (l : List Rw) (n : Nat) (v : Nat × Nat) : List Rw := l.takeWhile (fun r => decide (r.1 < n)) ++ midL n v (rowN l n).2.2 ++ (l.dropWhile (fun r => decide (r.1 < n))).filter (fun r => decide (r.1 ≠ n))
def settleL (l : List Rw) : List Rw := (l.filter fun r => decide (r.2.1 ≠ Z2)).map fun r => (r.1, r.2.1, r.2.1)
def allL (l : List Rw) : List Rw := l.filter fun r => decide (r.2.1 ≠ Z2)
def RisR (l : List Rw) : Prop := l.Pairwise fun a b => a.1 < b.1
/-- The document's rows tell what the storage's maps hold. -/
def Rel (fv fw : Nat → Option (Nat × Nat)) (l : List Rw) : Prop := RisR l ∧ (∀ r ∈ l, okR r ∧ (r.2.1 ≠ Z2 ∨ r.2.2 ≠ Z2)) ∧ (∀ n, rowN l n = (n, lk2 fv fw n, lk fw n)) ∧ ∀ n, fw n ≠ some Z2
theorem Rel.start : Rel (fun _ => none) (fun _ => none) [] := ⟨List.Pairwise.nil, by simp, fun _ => rfl, by simp⟩
theorem rowQ_mem {l : List Rw} {n : Nat} {r : Rw} (h : rowQ l n = some r) : r ∈ l ∧ r.1 = n := ⟨List.mem_of_find?_eq_some h, by simpa using List.find?_some h⟩
theorem rowQ_of_mem {l : List Rw} (hr : RisR l) {r : Rw} (h : r ∈ l) : rowQ l r.1 = some r := by
  unfold rowQ
  induction l with
  | nil => simp at h
  | cons a l ih =>
    obtain ⟨h1, h2⟩ := List.pairwise_cons.1 hr
    rcases List.mem_cons.1 h with rfl | h
    · simp
    · have := h1 r h
      rw [List.find?_cons_of_neg (by simp; omega)]
      exact ih h2 h
theorem rowQ_none {l : List Rw} {n : Nat} (h : ∀ r ∈ l, r.1 ≠ n) : rowQ l n = none := List.find?_eq_none.2 fun x hx => by simpa using h x hx
theorem rowQ_app (a b : List Rw) (n : Nat) : rowQ (a ++ b) n = (rowQ a n).or (rowQ b n) := by unfold rowQ; rw [List.find?_append]
theorem take_lt (l : List Rw) (n : Nat) : ∀ r ∈ l.takeWhile (fun r => decide (r.1 < n)), r.1 < n := fun r hr => by
  induction l with
  | nil => simp at hr
  | cons a l ih =>
    rw [List.takeWhile_cons] at hr
    split at hr
    · rename_i h
      rcases List.mem_cons.1 hr with rfl | hr
      · simpa using h
      · exact ih hr
    · simp at hr
theorem drop_ge {l : List Rw} (hr : RisR l) (n : Nat) : ∀ r ∈ l.dropWhile (fun r => decide (r.1 < n)), n ≤ r.1 := by
  induction l with
  | nil => simp
  | cons a l ih =>
    obtain ⟨h1, h2⟩ := List.pairwise_cons.1 hr
    intro r h
    rw [List.dropWhile_cons] at h
    split at h
    · exact ih h2 r h
    · rename_i hn
      simp at hn
      rcases List.mem_cons.1 h with rfl | h
      · exact hn
      · have := h1 r h; omega
theorem rowQ_filter {l : List Rw} {m n : Nat} (h : m ≠ n) : rowQ (l.filter fun r => decide (r.1 ≠ n)) m = rowQ l m := by
  unfold rowQ
  induction l with
  | nil => rfl
  | cons a l ih =>
    by_cases ha : a.1 = n
    · rw [List.filter_cons_of_neg (by simp [ha]), List.find?_cons_of_neg (by simp [ha]; omega), ih]
    · rw [List.filter_cons_of_pos (by simp [ha])]
      by_cases hm : a.1 = m
      · rw [List.find?_cons_of_pos (by simp [hm]), List.find?_cons_of_pos (by simp [hm])]
      · rw [List.find?_cons_of_neg (by simp [hm]), List.find?_cons_of_neg (by simp [hm]), ih]
theorem rowN_key {l : List Rw} {n : Nat} : (rowN l n).1 = n := by
  rw [rowN_Q]
  cases h : rowQ l n with
  | none => rfl
  | some r => exact (rowQ_mem h).2
theorem rowN_put {l : List Rw} (hr : RisR l) (n : Nat) (v : Nat × Nat) (m : Nat) : rowN (putL l n v) m = if m = n then (n, v, (rowN l n).2.2) else rowN l m := by
  have ha := take_lt l n
  have hb := drop_ge hr n
  by_cases e : m = n
  · subst e
    rw [if_pos rfl, rowN_Q]
    unfold putL
    rw [rowQ_app, rowQ_app, rowQ_none (fun r h => by have := ha r h; omega), rowQ_none (l := List.filter _ _) (fun r h => by simpa using (List.mem_filter.1 h).2)]
    unfold midL
    split
    · simp [rowQ]
    · rename_i h
      have h1 : v = Z2 := Classical.byContradiction fun q => h (.inl q)
      have h2 : (rowN l m).2.2 = Z2 := Classical.byContradiction fun q => h (.inr q)
      rw [h1, h2]; rfl
  · rw [if_neg e, rowN_Q, rowN_Q]
    unfold putL
    have hmid : rowQ (midL n v (rowN l n).2.2) m = none := rowQ_none fun r h => by
      unfold midL at h
      split at h
      · rw [List.mem_singleton.1 h]; exact fun q => e q.symm
      · simp at h
    rw [rowQ_app, rowQ_app, hmid, Option.or_none, rowQ_filter e, ← rowQ_app, List.takeWhile_append_dropWhile]
theorem ris_put {l : List Rw} (hr : RisR l) (n : Nat) (v : Nat × Nat) : RisR (putL l n v) := by
  have ha := take_lt l n
  have hb := drop_ge hr n
  unfold putL RisR
  rw [List.pairwise_append, List.pairwise_append]
  have hm : ∀ r ∈ midL n v (rowN l n).2.2, r.1 = n := fun r h => by
    unfold midL at h
    split at h
    · rw [List.mem_singleton.1 h]
    · simp at h
  have hf : ∀ r ∈ (l.dropWhile (fun r => decide (r.1 < n))).filter (fun r => decide (r.1 ≠ n)), n < r.1 := fun r h => by
    obtain ⟨h1, h2⟩ := List.mem_filter.1 h
    have := hb r h1
    simp at h2
    omega
  refine ⟨⟨hr.sublist (List.takeWhile_sublist _), ?_, fun a h1 b h2 => by rw [hm b h2]; exact ha a h1⟩, (hr.sublist (List.dropWhile_sublist _)).sublist List.filter_sublist, fun a h1 b h2 => ?_⟩
  · unfold midL; split <;> simp
  · have q := hf b h2
    rcases List.mem_append.1 h1 with h | h
    · have := ha a h; omega
    · rw [hm a h]; exact q
theorem Rel.put {fv fw : Nat → Option (Nat × Nat)} {l : List Rw} (h : Rel fv fw l) (n : Nat) (hn : n < MM) (v : Nat × Nat) (hv : okP v) : Rel (upd fv n (putO v (lk fw n))) fw (putL l n v) := by
  obtain ⟨h1, h2, h3, h4⟩ := h
  refine ⟨ris_put h1 n v, fun r hr => ?_, fun m => ?_, h4⟩
  · unfold putL at hr
    rcases List.mem_append.1 hr with hr | hr
    · rcases List.mem_append.1 hr with hr | hr
      · exact h2 r (List.takeWhile_subset _ hr)
      · unfold midL at hr
        split at hr
        · rename_i hq
          rw [List.mem_singleton.1 hr]
          refine ⟨⟨hn, hv, ?_⟩, hq⟩
          show okP (rowN l n).2.2
          rw [rowN_Q]
          cases hf : rowQ l n with
          | none => exact okP0
          | some r => exact (h2 r (rowQ_mem hf).1).1.2.2
        · simp at hr
    · exact h2 r (List.dropWhile_subset _ (List.mem_filter.1 hr).1)
  · rw [rowN_put h1, lk2_put, h3, h3]
    by_cases e : m = n
    · subst e; rw [if_pos rfl]; simp
    · rw [if_neg e]; simp [e]
theorem lk_ovr (fv fw : Nat → Option (Nat × Nat)) (n : Nat) : lk (ovr fv fw) n = lk2 fv fw n := by
  unfold lk lk2 ovr
  cases h : fv n with
  | none => rfl
  | some v => exact putO_get v
theorem ovr_nz {fv fw : Nat → Option (Nat × Nat)} (h4 : ∀ n, fw n ≠ some Z2) (n : Nat) : ovr fv fw n ≠ some Z2 ∧ (ovr fv fw n ≠ none ↔ lk2 fv fw n ≠ Z2) := by
  have h1 : ovr fv fw n ≠ some Z2 := by
    unfold ovr
    cases h : fv n with
    | none => exact h4 n
    | some v => unfold putO; simp only; split <;> rename_i q <;> simp; exact q
  refine ⟨h1, ?_⟩
  rw [← lk_ovr]
  unfold lk
  cases h : ovr fv fw n with
  | none => simp
  | some v =>
    rw [h] at h1
    simp at h1 ⊢
    exact h1
theorem ris_all {l : List Rw} (h : RisR l) : RisR (allL l) := List.Pairwise.filter _ h
theorem rowQ_all {l : List Rw} (h : RisR l) (n : Nat) : rowQ (allL l) n = (rowQ l n).filter fun r => decide (r.2.1 ≠ Z2) := by
  cases hf : rowQ l n with
  | none =>
    rw [rowQ_none]
    · rfl
    · intro r hr e
      have := rowQ_of_mem h (List.mem_filter.1 hr).1
      rw [e, hf] at this
      cases this
  | some r =>
    obtain ⟨h1, h2⟩ := rowQ_mem hf
    by_cases hz : r.2.1 = Z2
    · rw [rowQ_none]
      · simp [Option.filter, hz]
      · intro x hx e
        have h3 := List.mem_filter.1 hx
        have := rowQ_of_mem h h3.1
        rw [e, hf] at this
        injection this with this
        subst this
        simp [hz] at h3
    · have := rowQ_of_mem (ris_all h) (r := r) (List.mem_filter.2 ⟨h1, by simpa using hz⟩)
      rw [h2] at this
      rw [this]
      simp [Option.filter, hz]
theorem rowN_settle {l : List Rw} (h : RisR l) (n : Nat) : rowN (settleL l) n = (n, (rowN l n).2.1, (rowN l n).2.1) := by
  have e : rowQ (settleL l) n = (rowQ (allL l) n).map fun r => (r.1, r.2.1, r.2.1) := by
    unfold settleL rowQ allL
    rw [List.find?_map]
    rfl
  rw [rowN_Q, e, rowQ_all h, rowN_Q]
  cases hf : rowQ l n with
  | none => rfl
  | some r =>
    have h2 := (rowQ_mem hf).2
    by_cases hz : r.2.1 = Z2
    · simp [Option.filter, hz]
    · simp [Option.filter, hz, h2]
theorem Rel.settle {fv fw : Nat → Option (Nat × Nat)} {l : List Rw} (h : Rel fv fw l) : Rel (fun _ => none) (ovr fv fw) (settleL l) := by
  obtain ⟨h1, h2, h3, h4⟩ := h
  refine ⟨?_, fun r hr => ?_, fun n => ?_, fun n => (ovr_nz h4 n).1⟩
  · unfold settleL RisR
    rw [List.pairwise_map]
    exact List.Pairwise.filter _ h1
  · unfold settleL at hr
    obtain ⟨x, hx, rfl⟩ := List.mem_map.1 hr
    obtain ⟨q1, q2⟩ := List.mem_filter.1 hx
    have q3 : x.2.1 ≠ Z2 := by simpa using q2
    exact ⟨⟨(h2 x q1).1.1, (h2 x q1).1.2.1, (h2 x q1).1.2.1⟩, .inl q3⟩
  · rw [rowN_settle h1, h3]
    show (n, lk2 fv fw n, lk2 fv fw n) = (n, lk (ovr fv fw) n, lk (ovr fv fw) n)
    rw [lk_ovr]
/-- The keys of All. -/
theorem rise_unique {m : Nat → Option (Nat × Nat)} {a b : List Nat} (ha : Rise m a) (hb : Rise m b) : a = b := by
  have hp : a.Perm b := (List.perm_ext_iff_of_nodup (ha.1.imp fun h => by omega) (hb.1.imp fun h => by omega)).2 fun k => (ha.2.1 k).trans (hb.2.1 k).symm
  exact hp.eq_of_pairwise (fun x y _ _ h1 h2 => by omega) ha.1 hb.1
theorem Rel.rise {fv fw : Nat → Option (Nat × Nat)} {l : List Rw} (h : Rel fv fw l) : Rise (ovr fv fw) ((allL l).map (·.1)) := by
  obtain ⟨h1, h2, h3, h4⟩ := h
  refine ⟨?_, fun k => ?_, fun k hk => ?_⟩
  · rw [List.pairwise_map]; exact ris_all h1
  · rw [(ovr_nz h4 k).2]
    have hk := h3 k
    rw [rowN_Q] at hk
    constructor
    · intro hm
      obtain ⟨r, hr, rfl⟩ := List.mem_map.1 hm
      obtain ⟨q1, q2⟩ := List.mem_filter.1 hr
      rw [rowQ_of_mem h1 q1] at hk
      have := congrArg (fun x : Rw => x.2.1) hk
      simp at this q2
      rw [← this]
      exact q2
    · intro hm
      cases hf : rowQ l k with
      | none =>
        rw [hf] at hk
        have := congrArg (fun x : Rw => x.2.1) hk
        exact absurd this.symm hm
      | some r =>
        rw [hf] at hk
        obtain ⟨q1, q2⟩ := rowQ_mem hf
        have := congrArg (fun x : Rw => x.2.1) hk
        simp at this
        exact List.mem_map.2 ⟨r, List.mem_filter.2 ⟨q1, by simp [this]; exact hm⟩, q2⟩
  · obtain ⟨r, hr, rfl⟩ := List.mem_map.1 hk
    exact (h2 r (List.mem_filter.1 hr).1).1.1
theorem Rel.all_at {fv fw : Nat → Option (Nat × Nat)} {l : List Rw} (h : Rel fv fw l) {i : Nat} {r : Rw} (hi : (allL l)[i]? = some r) : r.2.1 = lk (ovr fv fw) r.1 := by
  obtain ⟨h1, h2, h3, h4⟩ := h
  have hm := (List.mem_filter.1 (List.mem_of_getElem? hi)).1
  have hk := h3 r.1
  rw [rowN_Q, rowQ_of_mem h1 hm] at hk
  rw [lk_ovr]
  exact congrArg (fun x : Rw => x.2.1) hk
theorem Rel.len {fv fw : Nat → Option (Nat × Nat)} {l : List Rw} {many : Nat} (h : Rel fv fw l) (hc : Cnt (lk2 fv fw) many) : (allL l).length = many := by
  obtain ⟨L, c1, c2, rfl⟩ := hc
  have hr := h.rise
  have hp : ((allL l).map (·.1)).Perm L := (List.perm_ext_iff_of_nodup (hr.1.imp fun h => by omega) c1).2 fun k => by
    rw [hr.2.1, c2, (ovr_nz h.2.2.2 k).2]
  have := hp.length_eq
  rwa [List.length_map] at this
/-- Which are alike. -/
def alR (a b : List Rw) (up : Nat) : Bool := (a.all fun r => smP r.2.1 (rowN b r.1).2.1 up && smP r.2.2 (rowN b r.1).2.2 up) && (b.all fun r => smP r.2.1 (rowN a r.1).2.1 up && smP r.2.2 (rowN a r.1).2.2 up)
end Go.Proofs.Ytcfnhilcpfiocaa

/- slot's reference: rows appended; All, Settle. -/
namespace Go.Proofs.Ytcfnhilcpfiocaa
open Go.RowKit Go.Shelf Go.ChangeMaps Go.MapKept

theorem und_sr : Try.prog.underlying 29 = some (.slice 59) := by kernel_rfl
theorem infoRw : (Try.prog.info? 59).map (fun i => (i.zero, i.size, i.bytes)) = some (some (.agg #[.int .u64 0, .int .u64 0, .int .u64 0, .int .u64 0, .int .u64 0, .int .u64 0, .int .u64 0, .int .u64 0, .int .u64 0, .int .u64 0, .int .u64 0, .int .u64 0, .int .u64 0, .int .u64 0]), 14, 112) := by kernel_rfl
theorem new_cells (X : World) (t : TypeId) (cs : Array Value) : ∀ j u, cs.toList[j]? = some u → (X.alloc (.cells cs t)).cell? ((⟨X.heap.size, 0, none⟩ : Addr).add j) = some u := fun j u hj => by
  rw [Go.WideShapes.add_plain, Nat.zero_add, cell_of_row _ _ j _ _ _ (Blk.new X t cs), ← Array.getElem?_toList, hj]
theorem rv_one (r : Rw) : ∀ u ∈ (rvA r).toList, u.oneCell' = true := fun u hu => by
  simp only [List.mem_cons, List.not_mem_nil, or_false] at hu
  rcases hu with rfl | rfl | rfl | rfl | rfl | rfl | rfl | rfl | rfl | rfl | rfl | rfl | rfl | rfl <;> rfl
theorem rvs_snoc (l : List Rw) (r : Rw) : rvs l ++ (rvA r).toList = rvs (l ++ [r]) := by rw [← rvs_app]; congr 1
theorem neqVal_R (v u : Nat × Nat) (hv : okP v) (hu : okP u) (w : World) : (binOp .neq 36 (vP v) (vP u)).run Try.prog w = .ok (.bool (!decide (v = u))) w := by
  have h := eqVal_any v u hv hu w
  rw [run_eql_struct] at h
  rw [run_neq_struct]
  generalize (Op.equalIn 10000 36 (.agg (vA v.1 v.2)) (.agg (vA u.1 u.2))).run Try.prog w = r at h ⊢
  cases r with
  | ok b w' =>
    simp only [Result.andThen_ok, Result.ok.injEq, Value.bool.injEq] at h ⊢
    exact ⟨by rw [h.1], h.2⟩
  | halt x w' => cases h
theorem neqZ (v : Nat × Nat) (hv : okP v) (w : World) : (binOp .neq 36 (vP v) (.agg #[.int .u64 0, .int .u64 0, .int .u64 0, .int .u64 0, .int .u64 0])).run Try.prog w = .ok (.bool (!decide (v = Z2))) w := by
  rw [← vP0]; exact neqVal_R v (0, 0) hv okP0 w
theorem world_keptR {w X Y : World} {base n0 : Nat} {e : TypeId} {size : Nat} {v : Value} {n : Nat} {xs : List Value} (h : X.ownsRow base e size v n xs) (hG : X.grownBy Y v.ownBlock) (hb : Below n0 w X) (hn : n0 ≤ w.heap.size) (hn0 : n0 ≤ base) : Below n0 w Y :=
  hb.grown hG (Nat.le_trans hn hb.size) (fun k e => Nat.le_trans hn0 (h.lt k e).1)
theorem OwR.snoc {X : World} {base N : Nat} {v : Value} {l : List Rw} {r : Rw} (hl : ∀ x ∈ l, okR x) (hr : okR r) (hN : l.length = N) (h : X.ownsRow base 59 14 v (N + 1) (rvs l ++ (rvA r).toList)) : OwR X base v (l ++ [r]) :=
  ⟨fun x hx => (List.mem_append.1 hx).elim (hl x) (fun h => by rw [List.mem_singleton.1 h]; exact hr), by rw [List.length_append, hN, ← rvs_snoc]; exact h⟩
/-- All: what has been gone over. -/
theorem all_step {l : List Rw} {k : Nat} {r : Rw} (h : l[k]? = some r) : allL (l.take (k + 1)) = allL (l.take k) ++ (if r.2.1 ≠ Z2 then [r] else []) := by
  unfold allL
  rw [List.take_add_one, h, List.filter_append]
  by_cases e : r.2.1 = Z2 <;> simp [e]
theorem settle_step {l : List Rw} {k : Nat} {r : Rw} (h : l[k]? = some r) : settleL (l.take (k + 1)) = settleL (l.take k) ++ (if r.2.1 ≠ Z2 then [(r.1, r.2.1, r.2.1)] else []) := by
  unfold settleL
  rw [List.take_add_one, h, List.filter_append, List.map_append]
  by_cases e : r.2.1 = Z2 <;> simp [e]
set_option maxRecDepth 100000 in
set_option maxHeartbeats 4000000 in
theorem rall_any (base : Nat) (v : Value) (l : List Rw) (w : World) (h : OwR w base v l) (hll : l.length ≤ 1000) :
    Calls Try.prog 22 #[.agg #[v]] w fun e w' => ∃ u, e = .returned u ∧ OwR w' w.heap.size u (allL l) ∧ Below w.heap.size w w' := by
  obtain ⟨xl, cl, rfl⟩ := h.is
  obtain ⟨N, hN⟩ : ∃ N, l.length = N := ⟨_, rfl⟩
  have HN := Lib.hid hN
  obtain ⟨W1, hW1⟩ : ∃ W1, w.alloc (.cells #[.slice xl N cl] 31) = W1 := ⟨_, rfl⟩
  have hB : Below w.heap.size w W1 := by rw [← hW1]; exact balloc (Below.refl _ _) _
  have b0 : Blk W1 w.heap.size 31 #[.slice xl N cl] := by rw [← hW1]; exact Blk.new _ _ _
  have HA := Lib.hid (And.intro (h.keep hB) (And.intro hB b0))
  have HW := Lib.hid hW1
  rw [hN] at hll ⊢
  clear h hB b0 hW1 hN
  obtain ⟨i0, hi, hz0, hz1, hz2⟩ := info_parts' infoRw
  have HI := Lib.hid (And.intro hi (And.intro hz0 (And.intro hz1 hz2)))
  clear hi hz0 hz1 hz2
  go_enter Try.func22, Try.ntmps22
  go_upto_region 1 with fail
  rw [HW.out]
  go_wp2_with fail
  go_loopw [3, 4] (fun u t wr => ∃ k : Nat, t = .int .i64 k ∧ k ≤ N ∧ OwR wr W1.heap.size u (allL (l.take k)) ∧ Below W1.heap.size W1 wr) (fun _ t _ => N - (intOf t).toNat)
  case atStart => exact ⟨0, rfl, Nat.zero_le _, OwR.nil _ _, Below.refl _ _⟩
  case round =>
    obtain ⟨k, rfl, hk, how, hbl⟩ := hrel
    have cS : wr.cell? ⟨w.heap.size, 0, none⟩ = some (.slice xl N cl) := cell_of_row _ _ 0 _ _ _ (HA.out.2.2.keep hbl)
    by_cases hlt : k < N
    · have g0 : (k : Int) < (N : Int) := by omega
      have g1 : (0 : Int) ≤ (k : Int) := by omega
      have g2 : IntKind.i64.wrap ((k : Int) + 1) = ((k + 1 : Nat) : Int) := IntWalk.i64_in _ (by omega)
      obtain ⟨r, hr⟩ : ∃ r, l[k]? = some r := ⟨_, List.getElem?_eq_getElem (by rw [HN.out]; exact hlt)⟩
      obtain ⟨b, o, c2, e, hbl1, hcell⟩ := HA.out.1.at hr
      injection e with e1 e2 e3
      subst e1
      have hcl : ∀ j, j < 14 → wr.cell? ⟨b, o + k * 14 + j, none⟩ = (rvA r)[j]? := fun j hj => (hbl.cell (p := ⟨b, o + k * 14 + j, none⟩) hbl1).trans (hcell j hj)
      have d0 : wr.cell? ⟨b, o + k * 14, none⟩ = some (.int .u64 (lb r.1 0)) := hcl 0 (by omega)
      have d1 : wr.cell? ⟨b, o + k * 14 + 1, none⟩ = some (.int .u64 (lb r.1 1)) := hcl 1 (by omega)
      have d2 : wr.cell? ⟨b, o + k * 14 + 2, none⟩ = some (.int .u64 (lb r.1 2)) := hcl 2 (by omega)
      have d3 : wr.cell? ⟨b, o + k * 14 + 3, none⟩ = some (.int .u64 (lb r.1 3)) := hcl 3 (by omega)
      have d4 : wr.cell? ⟨b, o + k * 14 + 4, none⟩ = some (.int .u64 (lb r.2.1.1 0)) := hcl 4 (by omega)
      have d5 : wr.cell? ⟨b, o + k * 14 + 5, none⟩ = some (.int .u64 (lb r.2.1.1 1)) := hcl 5 (by omega)
      have d6 : wr.cell? ⟨b, o + k * 14 + 6, none⟩ = some (.int .u64 (lb r.2.1.1 2)) := hcl 6 (by omega)
      have d7 : wr.cell? ⟨b, o + k * 14 + 7, none⟩ = some (.int .u64 (lb r.2.1.1 3)) := hcl 7 (by omega)
      have d8 : wr.cell? ⟨b, o + k * 14 + 8, none⟩ = some (.int .u64 (r.2.1.2 : Nat)) := hcl 8 (by omega)
      have d9 : wr.cell? ⟨b, o + k * 14 + 9, none⟩ = some (.int .u64 (lb r.2.2.1 0)) := hcl 9 (by omega)
      have d10 : wr.cell? ⟨b, o + k * 14 + 10, none⟩ = some (.int .u64 (lb r.2.2.1 1)) := hcl 10 (by omega)
      have d11 : wr.cell? ⟨b, o + k * 14 + 11, none⟩ = some (.int .u64 (lb r.2.2.1 2)) := hcl 11 (by omega)
      have d12 : wr.cell? ⟨b, o + k * 14 + 12, none⟩ = some (.int .u64 (lb r.2.2.1 3)) := hcl 12 (by omega)
      have d13 : wr.cell? ⟨b, o + k * 14 + 13, none⟩ = some (.int .u64 (r.2.2.2 : Nat)) := hcl 13 (by omega)
      have hok := HA.out.1.1 r (List.mem_of_getElem? hr)
      have hnz := neqZ r.2.1 hok.2.1
      have hst := all_step hr
      obtain ⟨M, hM⟩ : ∃ M, (allL (l.take k)).length = M := ⟨_, rfl⟩
      have hMk : M ≤ k := by rw [← hM]; unfold allL; exact Nat.le_trans (List.length_filter_le _ _) (List.length_take_le _ _)
      have hown := how.2
      rw [hM] at hown
      have HR := Lib.hid (And.intro hok (And.intro how (And.intro hbl (And.intro hM hMk))))
      clear hcl hcell hr hok e2 e3 how hbl1 hM hMk
      obtain ⟨vo, hvo⟩ : ∃ vo, u3 = vo := ⟨_, rfl⟩
      rw [hvo] at hown HR ⊢
      clear hvo
      by_cases hz : r.2.1 = Z2
      · rw [if_neg (by simp [hz]), List.append_nil] at hst
        rw [decide_eq_true hz] at hnz
        have HZ := Lib.hid (And.intro hst hz)
        clear hst hz hown hbl
        go_wp2_with fail
        go_roundw
        case rel => exact ⟨k + 1, rfl, by omega, by rw [HZ.out.1]; exact HR.out.2.1, HR.out.2.2.1⟩
        case measure => simp [intOf]; omega
      · rw [if_pos hz] at hst
        rw [decide_eq_false hz] at hnz
        have HZ := Lib.hid (And.intro hst hz)
        obtain ⟨hi, hz0, hz1, hz2⟩ := HI.out
        have hu := und_sr
        have hsz := hbl.size
        clear hst hz hbl
        go_wp2_with (first
          | (at_builtin; refine wpList_append_own _ rfl _ _ 29 rfl W1.heap.size 59 i0 (.agg #[.int .u64 0, .int .u64 0, .int .u64 0, .int .u64 0, .int .u64 0, .int .u64 0, .int .u64 0, .int .u64 0, .int .u64 0, .int .u64 0, .int .u64 0, .int .u64 0, .int .u64 0, .int .u64 0]) 14 112 hu hi hz0 hz1 hz2 rfl (by decide) _ _ _ rfl (hown.alloc _) ⟨wr.heap.size, 0, none⟩ 1 1 (rvA r).toList rfl rfl (new_cells wr _ (rvA r)) (rv_one r) ?c3 ?c4 ?c5 ?_)
          | fail)
        case c3 => unfold maxLen; have := HR.out.2.2.2.2; omega
        case c4 => have := HR.out.2.2.2.2; omega
        case c5 => simp; omega
        intro v2 z2 hown2 hgrow _
        have hB2 := world_keptR (hown.alloc _) hgrow (balloc HR.out.2.2.1 _) (Nat.le_refl _) (Nat.le_refl _)
        have hO2 := OwR.snoc HR.out.2.1.1 HR.out.1 HR.out.2.2.2.1 hown2
        have H2 := Lib.hid (And.intro hO2 hB2)
        clear hown hown2 hgrow hB2 hO2 hi hz0 hz1 hz2 hu
        go_wp2_with fail
        go_roundw
        case rel => exact ⟨k + 1, rfl, by omega, by rw [HZ.out.1]; exact H2.out.1, H2.out.2⟩
        case measure => simp [intOf]; omega
    · obtain rfl : k = N := by omega
      have g0 : ¬ (k : Int) < (k : Int) := by omega
      rw [List.take_of_length_le (by rw [HN.out]; exact Nat.le_refl _)] at how
      have HE := Lib.hid (And.intro (show OwR wr w.heap.size u3 (allL l) from ⟨how.1, how.2.mono HA.out.2.1.size⟩) (HA.out.2.1.trans (hbl.mono HA.out.2.1.size)))
      clear how hbl hlt hk
      go_wp2_with fail
      exact bodyPost_ret (R := fun e w' => ∃ u, e = .returned u ∧ OwR w' w.heap.size u (allL l) ∧ Below w.heap.size w w') (by simp [results, Try.results22, go_sem]) rfl ⟨_, rfl, HE.out⟩
end Go.Proofs.Ytcfnhilcpfiocaa

