/- digest: bytes laid one behind the other, in plain numbers, and as they lie in slices. -/
import Derived.Test.YtjmfnafbjfceoaaDoorKk
import Derived.Test.YtjmfnafbjfceoaaDoorTg
import Derived.Laws.CopyRow
namespace Go.Proofs.YtjmfnafbjfceoaaDoor
open Go.RowKit

/-- A slice of bytes: its value, how many they are, which. -/
structure Sl where
  v : Value
  n : Nat
  f : Nat → Nat
/-- The slice's bytes in a world. -/
def SlAt (X : World) (s : Sl) : Prop := ∃ x cap, s.v = .slice x s.n cap ∧ s.n ≤ cap ∧ cap ≤ 9223372036854775807 ∧ (0 < s.n → ∃ b o, x = some ⟨b, o, none⟩ ∧ b < X.heap.size ∧ ∀ k, k < s.n → s.f k < 256 ∧ X.cell? ⟨b, o + k, none⟩ = some (.int .u8 (s.f k : Nat)))
/-- A slice of slices, in a world. -/
def LsAt (X : World) (x0 : Option Addr) (ls : List Sl) : Prop := ∀ (i : Nat) s, ls[i]? = some s → SlAt X s ∧ ∃ b o, x0 = some ⟨b, o, none⟩ ∧ b < X.heap.size ∧ X.cell? ⟨b, o + i, none⟩ = some s.v
def tot : List Sl → Nat
  | [] => 0
  | s :: t => s.n + tot t
/-- The joined bytes. -/
def jn : List Sl → Nat → Nat
  | [], _ => 0
  | s :: t, p => if p < s.n then s.f p else jn t (p - s.n)
theorem jn_at : ∀ (ls : List Sl) (i : Nat) (s : Sl), ls[i]? = some s → ∀ d, d < s.n → jn ls (tot (ls.take i) + d) = s.f d
  | [], i, s, h, d, hd => by simp at h
  | t :: ls, 0, s, h, d, hd => by
    simp at h; subst h
    simp [tot, jn, hd]
  | t :: ls, i + 1, s, h, d, hd => by
    have ih := jn_at ls i s (by simpa using h) d hd
    show jn (t :: ls) (t.n + tot (ls.take i) + d) = s.f d
    rw [jn, if_neg (by omega), show t.n + tot (ls.take i) + d - t.n = tot (ls.take i) + d by omega, ih]
theorem tot_take : ∀ (ls : List Sl) (i : Nat) (s : Sl), ls[i]? = some s → tot (ls.take (i + 1)) = tot (ls.take i) + s.n
  | [], i, s, h => by simp at h
  | t :: ls, 0, s, h => by simp at h; subst h; simp [tot]
  | t :: ls, i + 1, s, h => by
    have ih := tot_take ls i s (by simpa using h)
    show t.n + tot (ls.take (i + 1)) = t.n + tot (ls.take i) + s.n
    omega
theorem tot_le : ∀ (ls : List Sl) (i : Nat), tot (ls.take i) ≤ tot ls
  | [], i => by simp
  | t :: ls, 0 => by simp [tot]
  | t :: ls, i + 1 => by
    have ih := tot_le ls i
    show t.n + tot (ls.take i) ≤ t.n + tot ls
    omega
theorem jn_lt (X : World) (x0 : Option Addr) : ∀ (ls : List Sl), (∀ s, s ∈ ls → ∀ k, k < s.n → s.f k < 256) → ∀ p, jn ls p < 256
  | [], _, p => by simp [jn]
  | s :: t, h, p => by
    rw [jn]
    by_cases hp : p < s.n
    · rw [if_pos hp]; exact h s (by simp) p hp
    · rw [if_neg hp]; exact jn_lt X x0 t (fun s' hs => h s' (by simp [hs])) _
theorem LsAt.small {X : World} {x0 : Option Addr} {ls : List Sl} (h : LsAt X x0 ls) : ∀ s, s ∈ ls → ∀ k, k < s.n → s.f k < 256 := fun s hs k hk => by
  obtain ⟨i, hi⟩ := List.mem_iff_getElem?.1 hs
  obtain ⟨x, cap, _, _, _, hx⟩ := (h i s hi).1
  obtain ⟨b, o, _, _, hf⟩ := hx (by omega)
  exact (hf k hk).1
/-- The k-th piece: its bytes, and how many it has. -/
def pcF (N : Nat) (g : Nat → Nat) (k : Nat) : Nat → Nat := fun p => if 136 * k + p < N then g (136 * k + p) else 0
def pcL (N k : Nat) : Nat := min 136 (N - 136 * k)
theorem Bc_congr {n : Nat} {f g : Nat → Nat} (h : ∀ p, p < n → f p = g p) : Bc n f = Bc n g := by
  unfold Bc
  refine congrArg List.toArray (List.map_congr_left fun p hp => ?_)
  rw [h p (List.mem_range.1 hp)]
theorem pc_full {N : Nat} {g h : Nat → Nat} {k : Nat} (hk : 136 * k + 136 ≤ N) (hh : ∀ p, p < 136 → h p = g (136 * k + p)) : Bc 136 h = Bc 136 (pcF N g k) :=
  Bc_congr fun p hp => by unfold pcF; rw [if_pos (by omega), hh p hp]
theorem pc_last {N : Nat} {g h : Nat → Nat} {k f : Nat} (hf : N = 136 * k + f) (hh : ∀ p, p < f → h p = g (136 * k + p)) (h0 : ∀ p, f ≤ p → p < 136 → h p = 0) : Bc 136 h = Bc 136 (pcF N g k) :=
  Bc_congr fun p hp => by
    unfold pcF
    by_cases hpf : p < f
    · rw [if_pos (by omega), hh p hpf]
    · rw [if_neg (by omega), h0 p (by omega) hp]
/-- Cells of bytes, a stretch of them written. -/
def wrF (g h : Nat → Nat) (o n : Nat) : Nat → Nat := fun p => if o ≤ p ∧ p < o + n then h (p - o) else g p
theorem Bc_write (g h : Nat → Nat) (m o n : Nat) (hm : o + n ≤ m) :
    ((Bc m g).toList.take o ++ ((List.range n).map fun p => Value.int .u8 (h p : Nat)) ++ (Bc m g).toList.drop (o + n)).toArray = Bc m (wrF g h o n) := by
  unfold Bc
  refine congrArg List.toArray ?_
  refine List.ext_getElem? fun p => ?_
  rw [List.getElem?_append, List.getElem?_append]
  simp only [List.length_append, List.length_take, List.length_map, List.length_range, List.getElem?_take, List.getElem?_map, List.getElem?_drop]
  unfold wrF
  by_cases h1 : p < o
  · rw [if_pos (by omega), if_pos (by omega), if_pos h1]
    by_cases hp : p < m
    · simp [List.getElem?_range hp, show ¬ (o ≤ p ∧ p < o + n) by omega]
    · omega
  · by_cases h2 : p < o + n
    · rw [if_pos (by omega), if_neg (by omega)]
      have e : min o m = o := by omega
      rw [e, List.getElem?_range (show p - o < n by omega), List.getElem?_range (show p < m by omega)]
      simp [show o ≤ p ∧ p < o + n by omega]
    · rw [if_neg (by omega)]
      by_cases hp : p < m
      · simp [List.getElem?_range hp, show o + n + (p - (min o m + n)) = p by omega, show ¬ (o ≤ p ∧ p < o + n) by omega]
      · have e1 : (List.range m)[o + n + (p - (min o m + n))]? = none := List.getElem?_eq_none (by simp; omega)
        have e2 : (List.range m)[p]? = none := List.getElem?_eq_none (by simp; omega)
        rw [e1, e2]; rfl
theorem grown_setRow (w : World) (g : Nat) (cs : Array Value) : w.grownBy (w.setRow g cs) (some g) :=
  ⟨rfl, rfl, rfl, by simp [World.setRow], fun k _ hk => setRow_other w g k cs (fun e => hk (by rw [e]))⟩
end Go.Proofs.YtjmfnafbjfceoaaDoor
