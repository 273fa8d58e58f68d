/- digest: bytes that stay, Clone, Blocks. -/
import Derived.Test.YtjmfnafbjfceoaaDoorHc
import Derived.Laws.AppendOwn
namespace Go.Proofs.YtjmfnafbjfceoaaDoor
open Go.RowKit Go.Shelf

/-- A slice's bytes, in blocks below B. -/
def SlB (B : Nat) (X : World) (s : Sl) : Prop := ∃ x cap, s.v = .slice x s.n cap ∧ s.n ≤ cap ∧ cap ≤ 9223372036854775807 ∧ (0 < s.n → ∃ b o, x = some ⟨b, o, none⟩ ∧ b < B ∧ ∀ k, k < s.n → s.f k < 256 ∧ X.cell? ⟨b, o + k, none⟩ = some (.int .u8 (s.f k : Nat)))
def LsB (B : Nat) (X : World) (x0 : Option Addr) (ls : List Sl) : Prop := ∀ (i : Nat) s, ls[i]? = some s → SlB B X s ∧ ∃ b o, x0 = some ⟨b, o, none⟩ ∧ b < B ∧ X.cell? ⟨b, o + i, none⟩ = some s.v
theorem SlB.at {B : Nat} {X : World} {s : Sl} (h : SlB B X s) (hB : B ≤ X.heap.size) : SlAt X s := by
  obtain ⟨x, cap, h1, h2, h3, h4⟩ := h
  exact ⟨x, cap, h1, h2, h3, fun hn => by obtain ⟨b, o, e, hb, hc⟩ := h4 hn; exact ⟨b, o, e, by omega, hc⟩⟩
theorem LsB.at {B : Nat} {X : World} {x0 : Option Addr} {ls : List Sl} (h : LsB B X x0 ls) (hB : B ≤ X.heap.size) : LsAt X x0 ls := fun i s hs => by
  obtain ⟨h1, b, o, e, hb, hc⟩ := h i s hs
  exact ⟨h1.at hB, b, o, e, by omega, hc⟩
theorem cell_heap {X Y : World} {p : Addr} (h : Y.heap[p.block]? = X.heap[p.block]?) : Y.cell? p = X.cell? p := by unfold World.cell?; rw [h]
theorem SlB.kept {B : Nat} {X Y : World} {s : Sl} (h : SlB B X s) (hk : ∀ b, b < B → b < X.heap.size → Y.heap[b]? = X.heap[b]?) : SlB B Y s := by
  obtain ⟨x, cap, h1, h2, h3, h4⟩ := h
  refine ⟨x, cap, h1, h2, h3, fun hn => ?_⟩
  obtain ⟨b, o, e, hb, hc⟩ := h4 hn
  have hlt : b < X.heap.size := World.block_lt_of_cell? X ⟨b, o + 0, none⟩ (hc 0 hn).2
  exact ⟨b, o, e, hb, fun k hk2 => ⟨(hc k hk2).1, (cell_heap (p := ⟨b, o + k, none⟩) (hk b hb hlt)).trans (hc k hk2).2⟩⟩
theorem LsB.kept {B : Nat} {X Y : World} {x0 : Option Addr} {ls : List Sl} (h : LsB B X x0 ls) (hk : ∀ b, b < B → b < X.heap.size → Y.heap[b]? = X.heap[b]?) : LsB B Y x0 ls := fun i s hs => by
  obtain ⟨h1, b, o, e, hb, hc⟩ := h i s hs
  have hlt : b < X.heap.size := World.block_lt_of_cell? X ⟨b, o + i, none⟩ hc
  exact ⟨h1.kept hk, b, o, e, hb, (cell_heap (p := ⟨b, o + i, none⟩) (hk b hb hlt)).trans hc⟩
theorem Abide.slB {β : Type} {B q : Nat} (hB : B ≤ q) (s : Sl) : Abide q (fun (_ : β) X => SlB B X s) := fun _ X Y row hs hg hr =>
  SlB.kept hs fun b hb hx => hg.block b hx (fun e => by have := hr b e.symm; omega)
theorem Abide.lsB {β : Type} {B q : Nat} (hB : B ≤ q) (x0 : Option Addr) (ls : List Sl) : Abide q (fun (_ : β) X => LsB B X x0 ls) := fun _ X Y row hs hg hr =>
  LsB.kept hs fun b hb hx => hg.block b hx (fun e => by have := hr b e.symm; omega)
theorem SlB.new {B : Nat} {X Y : World} {s : Sl} (h : SlB B X s) (k : Below X.heap.size X Y) : SlB B Y s := h.kept fun b _ hx => k.block b hx
theorem LsB.new {B : Nat} {X Y : World} {x0 : Option Addr} {ls : List Sl} (h : LsB B X x0 ls) (k : Below X.heap.size X Y) : LsB B Y x0 ls := h.kept fun b _ hx => k.block b hx
theorem SlB.mono {B C : Nat} {X : World} {s : Sl} (h : SlB B X s) (hB : B ≤ C) : SlB C X s := by
  obtain ⟨x, cap, h1, h2, h3, h4⟩ := h
  exact ⟨x, cap, h1, h2, h3, fun hn => by obtain ⟨b, o, e, hb, hc⟩ := h4 hn; exact ⟨b, o, e, by omega, hc⟩⟩
/-- What an own row of bytes holds. -/
theorem SlB.owns {X : World} {base n : Nat} {v : Value} {f : Nat → Nat} (hf : ∀ k, k < n → f k < 256) (h : X.ownsRow base 5 1 v n ((List.range n).map fun k => Value.int .u8 (f k : Nat))) : SlB X.heap.size X ⟨v, n, f⟩ := by
  have h0 := h
  obtain ⟨_, h⟩ := h
  rcases h with ⟨rfl, rfl⟩ | ⟨g, cap, cur, rfl, hb, hg, hn, hc, hs, ht⟩
  · exact ⟨none, 0, rfl, Nat.le_refl _, by omega, fun h => by simp at h⟩
  · refine ⟨some ⟨g, 0, none⟩, cap, rfl, hn, by unfold maxLen at hc; omega, fun _ => ⟨g, 0, rfl, (Array.getElem?_eq_some_iff.1 hg).1, fun k hk => ⟨hf k hk, ?_⟩⟩⟩
    have h1 := h0.cells (g := g) rfl k (.int .u8 (f k : Nat)) (by rw [List.getElem?_map, List.getElem?_range hk]; rfl)
    rwa [Go.WideShapes.add_plain] at h1
theorem infoU8 : (Tryd.prog.info? 5).map (fun i => (i.zero, i.size, i.bytes)) = some (some (.int .u8 0), 1, 1) := by kernel_rfl
theorem info_parts' {P : Program} {e : TypeId} {z : Value} {s b : Nat} (h : (P.info? e).map (fun i => (i.zero, i.size, i.bytes)) = some (some z, s, b)) : ∃ i, P.info? e = some i ∧ i.zero = some z ∧ i.size = s ∧ i.bytes = b := by
  cases hi : P.info? e with
  | none => rw [hi] at h; cases h
  | some i =>
    rw [hi] at h
    simp only [Option.map_some, Option.some.injEq, Prod.mk.injEq] at h
    exact ⟨i, rfl, h.1, h.2.1, h.2.2⟩
theorem nil_nil (w : World) : (binOp .eql 22 (.slice none 0 0) (.slice none 0 0)).run Tryd.prog w = .ok (.bool true) w := by kernel_rfl
theorem some_nil (a : Addr) (n cap : Nat) (w : World) : (binOp .eql 22 (.slice (some a) n cap) (.slice none 0 0)).run Tryd.prog w = .ok (.bool false) w := by kernel_rfl
attribute [local go_sem] nil_nil some_nil
attribute [local irreducible] Bc
set_option maxRecDepth 100000 in
set_option maxHeartbeats 2000000 in
/-- bytes.Clone. -/
theorem clone_any (s : Sl) (hv : (s.v = .slice none 0 0 ∧ s.n = 0) ∨ ∃ a cap, s.v = .slice (some a) s.n cap) (hn : s.n ≤ 1000000) (w : World) (hs : SlAt w s) :
    Calls Tryd.prog 72 #[s.v] w fun e w' => ∃ v', e = .returned v' ∧ SlB w'.heap.size w' ⟨v', s.n, s.f⟩ ∧ Below w.heap.size w w' := by
  obtain ⟨i0, hi, hz0, hz1, hz2⟩ := info_parts' infoU8
  have hu : Tryd.prog.underlying 22 = some (.slice 5) := by kernel_rfl
  rcases hv with ⟨hv, h0⟩ | ⟨a, cap, hv⟩
  · rw [hv]
    go_enter Tryd.func72, Tryd.ntmps72
    go_wp2_with fail
    go_ret
    have hE : SlB w.heap.size w ⟨.slice none 0 0, s.n, s.f⟩ := ⟨none, 0, by show _ = Value.slice none s.n 0; rw [h0], by show s.n ≤ 0; omega, by omega, fun h => by have : 0 < s.n := h; omega⟩
    exact ⟨.slice none 0 0, rfl, hE, Below.refl _ _⟩
  · have hel : ∀ j u, ((List.range s.n).map fun k => Value.int .u8 (s.f k : Nat))[j]? = some u → w.cell? (a.add j) = some u := fun j u hj => by
      obtain ⟨x, cap', h1, _, _, h4⟩ := hs
      rw [hv] at h1
      cases h1
      rw [List.getElem?_map] at hj
      by_cases hjn : j < s.n
      · obtain ⟨b, o, e, hb, hc⟩ := h4 (by omega)
        cases e
        rw [List.getElem?_range hjn] at hj
        cases hj
        rw [Go.WideShapes.add_plain]
        exact (hc j hjn).2
      · rw [List.getElem?_eq_none (by simp; omega)] at hj; cases hj
    have hf : ∀ k, k < s.n → s.f k < 256 := fun k hk => by
      obtain ⟨x, cap', h1, _, _, h4⟩ := hs
      obtain ⟨b, o, e, hb, hc⟩ := h4 (by omega)
      exact (hc k hk).1
    have ha : ∀ j u, ((List.range s.n).map fun k => Value.int .u8 (s.f k : Nat))[j]? = some u → (w.alloc (.cells #[] 5)).cell? (a.add j) = some u := fun j u hj => by
      have h1 := hel j u hj
      exact ((balloc (Below.refl w.heap.size w) (.cells #[] 5)).cell (World.block_lt_of_cell? w _ h1)).trans h1
    have hown : (w.alloc (.cells #[] 5)).ownsRow w.heap.size 5 1 (.slice (some ⟨w.heap.size, 0, none⟩) 0 0) 0 [] := World.ownsRow_made w #[] 0 (Nat.le_refl _) (by unfold maxLen; omega) (by rfl)
    have hW := balloc (Below.refl w.heap.size w) (.cells #[] 5)
    rw [hv]
    obtain ⟨n, hnn⟩ : ∃ n, s.n = n := ⟨_, rfl⟩
    rw [hnn] at hel hf ha hn ⊢
    clear hel hs hv
    go_enter Tryd.func72, Tryd.ntmps72
    go_wp2_with (first
      | (at_builtin; refine wpList_append_own _ rfl _ _ 22 rfl w.heap.size 5 i0 (.int .u8 0) 1 1 hu hi hz0 hz1 hz2 rfl (by decide) _ _ _ rfl hown a n cap ((List.range n).map fun k => Value.int .u8 (s.f k : Nat)) rfl ?c1 ?c2 ?c3 ?c4 ?c5 ?c6 ?_)
      | fail)
    case c1 => simp
    case c2 => exact ha
    case c3 => exact fun u hu => by simp only [List.mem_map] at hu; obtain ⟨k, _, rfl⟩ := hu; rfl
    case c4 => unfold maxLen; omega
    case c5 => omega
    case c6 => simp
    intro v' w2 hown2 hgrow _
    have hB : Below w.heap.size w w2 := hW.grown hgrow (by simp) (fun k e => by cases e; exact Nat.le_refl _)
    have HE := Lib.hid (And.intro (SlB.owns hf hown2) hB)
    clear hown hown2 hgrow hB hi hz0 hz1 hz2 hu ha hW
    go_wp2_with fail
    go_ret
    exact ⟨_, rfl, HE.out⟩

end Go.Proofs.YtjmfnafbjfceoaaDoor
