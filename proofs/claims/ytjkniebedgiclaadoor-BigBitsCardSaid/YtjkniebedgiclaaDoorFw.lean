/- big: noughts are laid behind an own row of digits (append of make). -/
import Derived.Test.YtjkniebedgiclaaDoorFv
import Derived.Lib.AppendZeros
namespace Go.Proofs.YtjkniebedgiclaaDoor
open Go.RowKit Go.Shelf

theorem und_int : Tryd.prog.underlying 3 = some (.int .i64) := by kernel_rfl
theorem zeroCells_u64 (m : Nat) : Builtin.zeroCells (Value.int .u64 0).cells m = (List.replicate m (Value.int .u64 0)).toArray := by
  have : (Value.int .u64 0).cells = #[Value.int .u64 0] := rfl
  rw [this]
  apply Array.ext'
  simp [Builtin.zeroCells]
  apply List.ext_getElem?
  intro i
  by_cases h : i < m <;> simp [h, Nat.mod_one]
theorem run_zeros_room (w : World) (ty : TypeId) (g sLen sCap m : Nat) (cur : Array Value) (hm : m ≤ 1000) (hg : w.heap[g]? = some (.cells cur 72 (0, 0))) (hroom : sLen + m ≤ sCap) (hfit : sLen + m ≤ cur.size) (h0 : 0 < m) :
    (Builtin.append_ #[54, 3] ty #[.slice (some ⟨g, 0, none⟩) sLen sCap, .int .i64 m]).run Tryd.prog w =
      .ok (.slice (some ⟨g, 0, none⟩) (sLen + m) sCap) (w.setRow g (cur.toList.take sLen ++ List.replicate m (Value.int .u64 0) ++ cur.toList.drop (sLen + m)).toArray) := by
  obtain ⟨i, hi, hz, hs, hb⟩ := info_parts' info_parts8
  have hst := run_storeCells_at Tryd.prog g sLen 72 (List.replicate m (.int .u64 0)) 0 cur w hg (by simpa using hfit) (fun u hu => by rw [(List.mem_replicate.1 hu).2]; rfl)
  simp only [Nat.add_zero, List.length_replicate] at hst
  have hw : IntKind.i64.wrap (m : Int) = m := by rw [IntKind.wrap_i64]; omega
  have hneg : ¬ ((m : Int) < 0) := by omega
  have h48 : ¬ (281474976710656 < (m : Int) * 8) := by omega
  have hne : ¬ (m = 0) := by omega
  simp [Builtin.append_, run_underlying und_u64s, run_underlying und_int, sizeOf, typeInfo, zeroValue, hi, hz, hs, hb, asInt, asIntOf, hw, hneg, h48, hne, hroom, zeroCells_u64, Addr.add_lit, hst]
theorem run_zeros_grow (w : World) (ty : TypeId) (b : Addr) (sLen sCap m : Nat) (olds : List Value) (hm : m ≤ 1000) (hl : sLen ≤ 1000) (hlo : olds.length = sLen) (holds : ∀ j v, olds[j]? = some v → w.cell? (b.add j) = some v) (hg : sCap < sLen + m) (h0 : 0 < m) :
    (Builtin.append_ #[54, 3] ty #[.slice (some b) sLen sCap, .int .i64 m]).run Tryd.prog w =
      .ok (.slice (some ⟨w.heap.size, 0, none⟩) (sLen + m) (grownCap w (sLen + m) sCap 72))
        (w.drew.alloc (.cells (olds.toArray ++ (List.replicate m (Value.int .u64 0)).toArray ++ (List.replicate (grownCap w (sLen + m) sCap 72 - (sLen + m)) (Value.int .u64 0)).toArray) 72)) := by
  obtain ⟨i, hi, hz, hs, hb⟩ := info_parts' info_parts8
  have hn : ¬ (sLen + m ≤ sCap) := by omega
  have hw : IntKind.i64.wrap (m : Int) = m := by rw [IntKind.wrap_i64]; omega
  have hneg : ¬ ((m : Int) < 0) := by omega
  have h48 : ¬ (281474976710656 < (m : Int) * 8) := by omega
  have hne : ¬ (m = 0) := by omega
  have h63' : ¬ (9223372036854775807 < ((sLen : Int) + (m : Int))) := by omega
  have hfit := growslice_fits (need := sLen + m) (old := sCap) (bytes := 8) (by omega) (by omega)
  have h48' : ¬ (281474976710656 < Builtin.nextslicecap (sLen + m) sCap * 8) := by omega
  have hfo := run_firstCells_some (P := Tryd.prog) w.drew 1 sLen b sLen sCap olds (by omega) (by simpa using holds)
  simp [Builtin.append_, run_underlying und_u64s, run_underlying und_int, sizeOf, typeInfo, zeroValue, hi, hz, hs, hb, asInt, asIntOf, hw, hneg, h48, hne, hn, h63', h48', Question.forced, hfo, newRow, grownCap, zeroCells_u64]
/-- append(row, make([]uint64, m)...), m at least one. -/
theorem run_zeros_own (w : World) (ty : TypeId) (base : Nat) (v : Value) (l : List Nat) (m : Nat) (hm : m ≤ 1000) (h0 : 0 < m) (hl : l.length ≤ 1000) (hown : OwD w base v l) (hb : base ≤ w.heap.size) :
    ∃ v' w', (Builtin.append_ #[54, 3] ty #[v, .int .i64 m]).run Tryd.prog w = .ok v' w' ∧ OwD w' base v' (l ++ List.replicate m 0) ∧ w.grownBy w' v.ownBlock := by
  have hlen : (l ++ List.replicate m 0).length = l.length + m := by simp
  have hmap : (l ++ List.replicate m 0).map (fun x => Value.int .u64 (x : Nat)) = l.map (fun x => Value.int .u64 (x : Nat)) ++ List.replicate m (.int .u64 0) := by simp
  have hall : ∀ x ∈ l ++ List.replicate m 0, x < B64 := fun x hx => (List.mem_append.1 hx).elim (hown.1 x) fun h => by rw [(List.mem_replicate.1 h).2]; exact B64_pos
  rcases hown.2.2 with ⟨hv, hn⟩ | ⟨g, cap, cur, hv, hbg, hg, hnc, hcm, hcs, ht⟩
  · have hl0 : l = [] := List.eq_nil_of_length_eq_zero hn
    subst hl0
    subst hv
    obtain ⟨i, hi, hz, hs, hby⟩ := info_parts' info_parts8
    have hr := Lib.run_append_nil_zeros (P := Tryd.prog) w 54 3 ty 72 i (.int .u64 0) .i64 .i64 und_u64s und_int hi hz m h0 (by omega) (by omega) (by rw [hby]; omega)
    refine ⟨_, _, hr, ⟨hall, ?_⟩, ⟨rfl, rfl, rfl, by simp, fun k hk _ => heap_alloc_old w.drew _ hk⟩⟩
    rw [hlen, hmap]
    have hge := grownCap_ge w m 0 72
    refine ⟨by simp, .inr ⟨w.heap.size, grownCap w m 0 72, _, by simp, hb, heap_alloc_new w.drew _, by simpa using hge, grownCap_le_maxLen w m 0 _ (by unfold maxLen; omega), ?_, ?_⟩⟩
    · simp [zeroCells_u64]; omega
    · simp [zeroCells_u64]
  · subst hv
    by_cases hroom : l.length + m ≤ cap
    · have hr := run_zeros_room w ty g l.length cap m cur hm hg hroom (by omega) h0
      refine ⟨_, _, hr, ⟨hall, ?_⟩, ⟨rfl, rfl, rfl, by simp, fun k _ hk => setRow_other w g k _ (fun e => hk (by simp [Value.ownBlock, e]))⟩⟩
      rw [hlen, hmap]
      rw [Nat.mul_one] at ht
      refine ⟨by simp, .inr ⟨g, cap, _, rfl, hbg, setRow_heap w g cur _ _ _ hg, hroom, hcm, ?_, ?_⟩⟩
      · simp; omega
      · rw [ht, Nat.mul_one]
        exact List.take_left' (by simp)
    · have hr := run_zeros_grow w ty ⟨g, 0, none⟩ l.length cap m (l.map fun x => Value.int .u64 (x : Nat)) hm hl (by simp) (hown.2.cells (g := g) rfl) (by omega) h0
      refine ⟨_, _, hr, ⟨hall, ?_⟩, ⟨rfl, rfl, rfl, by simp, fun k hk _ => heap_alloc_old w.drew _ hk⟩⟩
      rw [hlen, hmap]
      have hge := grownCap_ge w (l.length + m) cap 72
      refine ⟨by simp, .inr ⟨w.heap.size, _, _, rfl, hb, heap_alloc_new w.drew _, hge, grownCap_le_maxLen w _ cap _ (by unfold maxLen; omega), ?_, ?_⟩⟩
      · simp; omega
      · rw [Nat.mul_one]
        simp only [Array.toList_append]
        exact List.take_left' (by simp)
end Go.Proofs.YtjkniebedgiclaaDoor
