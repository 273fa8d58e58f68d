/- policy's base: slices that read as bytes, the order of bytes. -/
import Derived.Test.YtcplhalgjjhmdaaGa
import Derived.Laws.AppendOwn
import Derived.Laws.AppendOwnNone
import Derived.Deep.Onto
import Derived.Lib.MinMax
import Derived.Lib.BytesEntry
namespace Go.Proofs.Ytcplhalgjjhmdaa
open Go.RowKit Go.Shelf

theorem cell_heap {X Y : World} {p : Addr} (h : Y.heap[p.block]? = X.heap[p.block]?) : Y.cell? p = X.cell? p := by unfold World.cell?; rw [h]
theorem infoU8 : (Try.prog.info? 5).map (fun i => (i.zero, i.size, i.bytes)) = some (some (.int .u8 0), 1, 1) := by kernel_rfl
theorem info_parts' {P : Program} {e : TypeId} {z : Value} {s b : Nat} (h : (P.info? e).map (fun i => (i.zero, i.size, i.bytes)) = some (some z, s, b)) : ∃ i, P.info? e = some i ∧ i.zero = some z ∧ i.size = s ∧ i.bytes = b := by
  cases hi : P.info? e with
  | none => rw [hi] at h; cases h
  | some i =>
    rw [hi] at h
    simp only [Option.map_some, Option.some.injEq, Prod.mk.injEq] at h
    exact ⟨i, rfl, h.1, h.2.1, h.2.2⟩
def bvs (l : List Nat) : List Value := l.map fun x => Value.int .u8 (x : Nat)
theorem bvs_len (l : List Nat) : (bvs l).length = l.length := by unfold bvs; simp
theorem bvs_app (l m : List Nat) : bvs l ++ bvs m = bvs (l ++ m) := by unfold bvs; simp
theorem bvs_get (l : List Nat) (k : Nat) : (bvs l)[k]? = (l[k]?).map fun x => Value.int .u8 (x : Nat) := by unfold bvs; simp
theorem bvs_one (l : List Nat) : ∀ u ∈ bvs l, u.oneCell' = true := fun u hu => by
  unfold bvs at hu
  simp only [List.mem_map] at hu
  obtain ⟨k, _, rfl⟩ := hu
  rfl
/-- A slice that reads as a list of bytes; its memory lies below B. -/
def Bt (B : Nat) (X : World) (v : Value) (l : List Nat) : Prop := (∀ x ∈ l, x < 256) ∧ ∃ x cap, v = .slice x l.length cap ∧ l.length ≤ cap ∧ cap ≤ 9223372036854775807 ∧ ((x = none ∧ l = [] ∧ cap = 0) ∨ ∃ b o, x = some ⟨b, o, none⟩ ∧ (l ≠ [] → b < B ∧ b < X.heap.size) ∧ ∀ k u, l[k]? = some u → X.cell? ⟨b, o + k, none⟩ = some (.int .u8 (u : Nat)))
theorem Bt.kept {B : Nat} {X Y : World} {v : Value} {l : List Nat} (h : Bt B X v l) (hs : X.heap.size ≤ Y.heap.size) (hk : ∀ b, b < B → b < X.heap.size → Y.heap[b]? = X.heap[b]?) : Bt B Y v l := by
  obtain ⟨h1, x, cap, h2, h3, h4, h5⟩ := h
  refine ⟨h1, x, cap, h2, h3, h4, ?_⟩
  rcases h5 with h5 | ⟨b, o, e, hb, hc⟩
  · exact .inl h5
  · refine .inr ⟨b, o, e, fun hl => ⟨(hb hl).1, Nat.lt_of_lt_of_le (hb hl).2 hs⟩, fun k u hu => ?_⟩
    have hl : l ≠ [] := fun e => by rw [e] at hu; simp at hu
    exact (cell_heap (p := ⟨b, o + k, none⟩) (hk b (hb hl).1 (hb hl).2)).trans (hc k u hu)
theorem Bt.new {B : Nat} {X Y : World} {v : Value} {l : List Nat} (h : Bt B X v l) (k : Below X.heap.size X Y) : Bt B Y v l := h.kept k.size fun b _ hx => k.block b hx
theorem Bt.mono {B C : Nat} {X : World} {v : Value} {l : List Nat} (h : Bt B X v l) (hB : B ≤ C) : Bt C X v l := by
  obtain ⟨h1, x, cap, h2, h3, h4, h5⟩ := h
  refine ⟨h1, x, cap, h2, h3, h4, ?_⟩
  rcases h5 with h5 | ⟨b, o, e, hb, hc⟩
  · exact .inl h5
  · exact .inr ⟨b, o, e, fun hl => ⟨Nat.lt_of_lt_of_le (hb hl).1 hB, (hb hl).2⟩, hc⟩
theorem Abide.bt {β : Type} {B q : Nat} (hB : B ≤ q) (v : Value) (l : List Nat) : Abide q (fun (_ : β) X => Bt B X v l) := fun _ X Y row hs hg hr =>
  Bt.kept hs hg.size fun b hb hx => hg.block b hx (fun e => by have := hr b e.symm; omega)
theorem Bt.below {B n : Nat} {X Y : World} {v : Value} {l : List Nat} (h : Bt B X v l) (hB : B ≤ n) (k : Below n X Y) : Bt B Y v l := h.kept k.size fun b hb _ => k.block b (by omega)
/-- An own row of bytes. -/
def Ow (X : World) (base : Nat) (v : Value) (l : List Nat) : Prop := (∀ x ∈ l, x < 256) ∧ X.ownsRow base 5 1 v l.length (bvs l)
theorem Ow.bt {X : World} {base : Nat} {v : Value} {l : List Nat} (h : Ow X base v l) : Bt X.heap.size X v l := by
  obtain ⟨hs, h⟩ := h
  have h0 := h
  refine ⟨hs, ?_⟩
  rcases h.2 with ⟨hv, hn⟩ | ⟨g, cap, cur, hv, hb, hg, hn, hc, _, _⟩
  · have hl : l = [] := List.eq_nil_of_length_eq_zero hn
    subst hl
    exact ⟨none, 0, hv, Nat.le_refl _, by omega, .inl ⟨rfl, rfl, rfl⟩⟩
  · have hlt := (Array.getElem?_eq_some_iff.1 hg).1
    refine ⟨some ⟨g, 0, none⟩, cap, hv, hn, by unfold maxLen at hc; omega, .inr ⟨g, 0, rfl, fun _ => ⟨hlt, hlt⟩, fun k u hu => ?_⟩⟩
    have h1 := h0.cells (g := g) (by rw [hv]; rfl) k (.int .u8 (u : Nat)) (by rw [bvs_get, hu]; rfl)
    rwa [Go.WideShapes.add_plain] at h1
theorem Ow.is {X : World} {base : Nat} {v : Value} {l : List Nat} (h : Ow X base v l) : ∃ x c, v = .slice x l.length c := by
  obtain ⟨_, x, c, e, _⟩ := h.bt
  exact ⟨x, c, e⟩
theorem Ow.kept {X Y : World} {base : Nat} {v : Value} {l : List Nat} {row : Option Nat} (h : Ow X base v l) (hg : X.grownBy Y row) (hne : ∀ r, row = some r → r < base) : Ow Y base v l := by
  refine ⟨h.1, h.2.kept hg ?_⟩
  cases hv : v.ownBlock with
  | none => exact .inl rfl
  | some k => exact .inr fun e => by have := (h.2.lt k hv).1; have := hne k e.symm; omega
theorem Ow.new {X Y : World} {base : Nat} {v : Value} {l : List Nat} (h : Ow X base v l) (k : Below X.heap.size X Y) : Ow Y base v l := h.kept (grown_new k) (fun _ e => by cases e)
theorem Ow.mono {X : World} {b c : Nat} {v : Value} {l : List Nat} (h : Ow X b v l) (hb : c ≤ b) : Ow X c v l := ⟨h.1, h.2.mono hb⟩
theorem Ow.nil (X : World) (base : Nat) : Ow X base (.slice none 0 0) [] := ⟨by simp, World.ownsRow_nil _ _ _ _⟩
/-- Bytes laid behind an own row of bytes. -/
theorem wpList_app {w : World} {ops : Array Oper} {rest : List Oper} {o : Oper} {a : Act} {Q : Exit → Act → World → Prop} (hgd : o.guard = none) (s x : Operand)
    (ho : o.op = .call { callee := .builtin .append, args := #[s, x], argTypes := #[30, 30] })
    (base : Nat) (l : List Nat) (hown : Ow w base (a.eval s) l) (B : Nat) (m : List Nat) (hx : Bt B w (a.eval x) m) (hn : l.length + m.length ≤ 1000000) (hb : base ≤ w.heap.size)
    (h : ∀ y c w', Ow w' base (.slice y (l ++ m).length c) (l ++ m) → w.grownBy w' (a.eval s).ownBlock → wpList Try.prog ops Q rest (a.put o.dst (.slice y (l ++ m).length c)) w') : wpList Try.prog ops Q (o :: rest) a w := by
  obtain ⟨i0, hi, hz0, hz1, hz2⟩ := info_parts' infoU8
  have hu : Try.prog.underlying 30 = some (.slice 5) := by kernel_rfl
  obtain ⟨hm, y, cap, he, h3, h4, h5⟩ := hx
  rcases h5 with ⟨rfl, rfl, rfl⟩ | ⟨b, q, rfl, hbb, hc⟩
  · refine wpList_append_own_none hgd s x 30 ho base 5 i0 1 hu hi _ _ _ rfl hown.2 he ?_
    obtain ⟨z, c, hv⟩ := hown.is
    have hE : l ++ ([] : List Nat) = l := by simp
    have h' := h z c w
    rw [hE, ← hv] at h'
    exact h' hown (World.grownBy.refl w _)
  · refine wpList_append_own _ hgd s x 30 ho base 5 i0 (.int .u8 0) 1 1 hu hi hz0 hz1 hz2 rfl (by decide) _ l.length (bvs l) rfl hown.2 ⟨b, q, none⟩ m.length cap (bvs m) he (by rw [bvs_len]; omega) ?_ (bvs_one m) (by unfold maxLen; omega) (by omega) hb ?_
    · intro j u hj
      rw [bvs_get] at hj
      cases hmj : m[j]? with
      | none => rw [hmj] at hj; cases hj
      | some v =>
        rw [hmj] at hj
        cases hj
        rw [Go.WideShapes.add_plain]
        exact hc j v hmj
    · intro v' w' ho' hg _
      have hO : Ow w' base v' (l ++ m) := ⟨fun z hz => (List.mem_append.1 hz).elim (hown.1 z) (hm z), by rw [← bvs_app, List.length_append]; exact ho'⟩
      obtain ⟨z, c, rfl⟩ := hO.is
      exact h z c w' hO hg
/-- A slice that reads as these bytes; where it holds none, nothing is said of its place. -/
def Bto (B : Nat) (X : World) (v : Value) (l : List Nat) : Prop := (∀ x ∈ l, x < 256) ∧ ∃ x cap, v = .slice x l.length cap ∧ l.length ≤ cap ∧ l.length ≤ 9223372036854775807 ∧ (l ≠ [] → ∃ b o, x = some ⟨b, o, none⟩ ∧ b < B ∧ b < X.heap.size ∧ ∀ k u, l[k]? = some u → X.cell? ⟨b, o + k, none⟩ = some (.int .u8 (u : Nat)))
theorem Bto.kept {B : Nat} {X Y : World} {v : Value} {l : List Nat} (h : Bto B X v l) (hs : X.heap.size ≤ Y.heap.size) (hk : ∀ b, b < B → b < X.heap.size → Y.heap[b]? = X.heap[b]?) : Bto B Y v l := by
  obtain ⟨h1, x, cap, h2, h3, h4, h5⟩ := h
  refine ⟨h1, x, cap, h2, h3, h4, fun hl => ?_⟩
  obtain ⟨b, o, e, hb, hbx, hc⟩ := h5 hl
  refine ⟨b, o, e, hb, Nat.lt_of_lt_of_le hbx hs, fun k u hu => ?_⟩
  have hh := hk b hb hbx
  rw [← hc k u hu]; simp only [World.cell?, hh]
theorem Bto.new {B : Nat} {X Y : World} {v : Value} {l : List Nat} (h : Bto B X v l) (k : Below X.heap.size X Y) : Bto B Y v l := h.kept k.size fun b _ hx => k.block b hx
theorem Bt.bto {B : Nat} {X : World} {v : Value} {l : List Nat} (h : Bt B X v l) : Bto B X v l := by
  obtain ⟨h1, x, cap, h2, h3, h4, h5⟩ := h
  refine ⟨h1, x, cap, h2, h3, Nat.le_trans h3 h4, fun hl => ?_⟩
  rcases h5 with ⟨_, h, _⟩ | ⟨b, o, e, hb, hc⟩
  · exact (hl h).elim
  · exact ⟨b, o, e, (hb hl).1, (hb hl).2, hc⟩
/-- What bytes are worth. -/
def bv (l : List Nat) : Nat := l.foldl (fun a x => a * 256 + x) 0
theorem bv_from (l : List Nat) : ∀ a, l.foldl (fun a x => a * 256 + x) a = a * 256 ^ l.length + bv l := by
  unfold bv
  induction l with
  | nil => intro a; simp
  | cons x l ih =>
    intro a
    rw [List.foldl_cons, List.foldl_cons, ih, ih (0 * 256 + x), List.length_cons, Nat.pow_succ]
    grind
theorem bv_nil : bv [] = 0 := rfl
theorem bv_app (a b : List Nat) : bv (a ++ b) = bv a * 256 ^ b.length + bv b := by
  show (a ++ b).foldl _ 0 = _
  rw [List.foldl_append, bv_from]
  rfl
theorem bv_cons (x : Nat) (l : List Nat) : bv (x :: l) = x * 256 ^ l.length + bv l := by
  have h := bv_app [x] l
  rw [show [x] ++ l = x :: l from rfl] at h
  rw [h]
  unfold bv
  simp
theorem bv_snoc (l : List Nat) (x : Nat) : bv (l ++ [x]) = bv l * 256 + x := by
  rw [bv_app]
  unfold bv
  simp
theorem bv_lt (l : List Nat) (h : ∀ x ∈ l, x < 256) : bv l < 256 ^ l.length := by
  induction l with
  | nil => show 0 < 256 ^ 0; omega
  | cons x l ih =>
    have h1 := ih fun y hy => h y (by simp [hy])
    have h2 : x + 1 ≤ 256 := h x (by simp)
    have h3 : (x + 1) * 256 ^ l.length ≤ 256 * 256 ^ l.length := Nat.mul_le_mul_right _ h2
    rw [bv_cons, List.length_cons, Nat.pow_succ, Nat.mul_comm (256 ^ l.length)]
    rw [Nat.add_mul, Nat.one_mul] at h3
    omega
/-- One number beside another. -/
def ordN (a b : Nat) : Int := if a < b then -1 else if b < a then 1 else 0
theorem u8_nat (x : Nat) (h : x < 256) : x.toUInt8.toNat = x := by
  show x % 256 = x
  omega
theorem compare_bv : ∀ (l m : List Nat), l.length = m.length → (∀ x ∈ l, x < 256) → (∀ x ∈ m, x < 256) → Lib.compareBytes (l.map Nat.toUInt8) (m.map Nat.toUInt8) = ordN (bv l) (bv m)
  | [], [], _, _, _ => rfl
  | [], _ :: _, h, _, _ => by simp at h
  | _ :: _, [], h, _, _ => by simp at h
  | x :: l, y :: m, h, hl, hm => by
    have h0 : l.length = m.length := by simpa using h
    have ih := compare_bv l m h0 (fun z hz => hl z (by simp [hz])) (fun z hz => hm z (by simp [hz]))
    have hx := hl x (by simp)
    have hy := hm y (by simp)
    have bl := bv_lt l (fun z hz => hl z (by simp [hz]))
    have bm := bv_lt m (fun z hz => hm z (by simp [hz]))
    rw [List.map_cons, List.map_cons]
    unfold Lib.compareBytes
    rw [bv_cons, bv_cons, ← h0, ih]
    rw [← h0] at bm
    have lt1 : ∀ a b : Nat, a < 256 → b < 256 → (a.toUInt8 < b.toUInt8 ↔ a < b) := fun a b ha hb => by
      rw [UInt8.lt_iff_toNat_lt, u8_nat a ha, u8_nat b hb]
    generalize 256 ^ l.length = P at *
    unfold ordN
    by_cases h1 : x < y
    · rw [if_pos ((lt1 x y hx hy).2 h1), if_pos]
      have := Nat.mul_le_mul_right P (show x + 1 ≤ y by omega)
      rw [Nat.succ_mul] at this
      omega
    · rw [if_neg (fun e => h1 ((lt1 x y hx hy).1 e))]
      by_cases h2 : y < x
      · have := Nat.mul_le_mul_right P (show y + 1 ≤ x by omega)
        rw [Nat.succ_mul] at this
        rw [if_pos ((lt1 y x hy hx).2 h2), if_neg (by omega), if_pos (by omega)]
      · rw [if_neg (fun e => h2 ((lt1 y x hy hx).1 e))]
        have e : x = y := by omega
        subst e
        have e1 : (x * P + bv l < x * P + bv m) ↔ bv l < bv m := by omega
        have e2 : (x * P + bv m < x * P + bv l) ↔ bv m < bv l := by omega
        simp only [e1, e2]
theorem run_bytes {B : Nat} {v : Value} {l : List Nat} {w : World} (hv : Bto B w v l) : (Extern.Bytes.bytesOf v).run Try.prog w = .ok ⟨(l.map Nat.toUInt8).toArray⟩ w := by
  obtain ⟨hb, x, c, rfl, _, _, hc⟩ := hv
  by_cases hl : l = []
  · subst hl
    cases x with
    | none => rfl
    | some a => rfl
  · obtain ⟨b, o, rfl, _, _, hc⟩ := hc hl
    have hl := Lib.run_loadBytesX (P := Try.prog) w (l.map fun x => ((x : Nat) : Int)) ⟨b, o, none⟩ .empty (fun j x hj => by
      rw [List.getElem?_map] at hj
      cases e : l[j]? with
      | none => rw [e] at hj; simp at hj
      | some u =>
        rw [e] at hj
        simp at hj
        have e2 : (⟨b, o, none⟩ : Addr).add j = ⟨b, o + j, none⟩ := by unfold Addr.add; split <;> simp_all
        rw [e2, hc j u e, hj])
    rw [List.length_map] at hl
    show (Extern.Bytes.loadBytes ⟨b, o, none⟩ l.length .empty).run Try.prog w = _
    rw [hl]
    congr 1
    apply ByteArray.ext
    simp [Lib.bytesOf]
theorem bv_inj : ∀ (l m : List Nat), l.length = m.length → (∀ x ∈ l, x < 256) → (∀ x ∈ m, x < 256) → bv l = bv m → l = m
  | [], [], _, _, _, _ => rfl
  | [], _ :: _, h, _, _, _ => by simp at h
  | _ :: _, [], h, _, _, _ => by simp at h
  | x :: l, y :: m, h, hl, hm, e => by
    have h' : l.length = m.length := by simpa using h
    have h1 := bv_lt l fun z hz => hl z (by simp [hz])
    have h2 := bv_lt m fun z hz => hm z (by simp [hz])
    rw [bv_cons, bv_cons, h'] at e
    rw [h'] at h1
    have hp : 0 < 256 ^ m.length := Nat.pow_pos (by omega)
    have e1 : bv l = bv m := by
      have := congrArg (· % 256 ^ m.length) e
      simp only [Nat.mul_comm _ (256 ^ m.length), Nat.mul_add_mod] at this
      rwa [Nat.mod_eq_of_lt h1, Nat.mod_eq_of_lt h2] at this
    have e2 : x = y := Nat.eq_of_mul_eq_mul_right hp (by omega)
    rw [e2, bv_inj l m h' (fun z hz => hl z (by simp [hz])) (fun z hz => hm z (by simp [hz])) e1]
end Go.Proofs.Ytcplhalgjjhmdaa
