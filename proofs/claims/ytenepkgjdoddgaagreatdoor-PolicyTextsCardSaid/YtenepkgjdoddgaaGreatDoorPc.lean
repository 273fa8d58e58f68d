/- Texts laid into one: Pc. -/
import Derived.Test.YtenepkgjdoddgaaGreatDoorGa
import Derived.Laws.AppendOwn
import Derived.Laws.AppendOwnNone
import Derived.Deep.Onto
import Derived.Lib.MinMax
import Derived.Lib.BytesEntry
import Derived.Deep.MidRow
import Derived.Deep.WholeRow
import Derived.Deep.DeepCutAuto
import Derived.Deep.RegionHeld3
/- policy's base: slices that read as bytes, the order of bytes. -/
namespace Go.Proofs.YtenepkgjdoddgaaGreatDoor
open Go.RowKit Go.Shelf

theorem cell_heap {X Y : World} {p : Addr} (h : Y.heap[p.block]? = X.heap[p.block]?) : Y.cell? p = X.cell? p := by unfold World.cell?; rw [h]
theorem infoU8 : (Tryz.prog.info? 5).map (fun i => (i.zero, i.size, i.bytes)) = some (some (.int .u8 0), 1, 1) := by kernel_rfl
theorem info_parts' {P : Program} {e : TypeId} {z : Value} {s b : Nat} (h : (P.info? e).map (fun i => (i.zero, i.size, i.bytes)) = some (some z, s, b)) : ∃ i, P.info? e = some i ∧ i.zero = some z ∧ i.size = s ∧ i.bytes = b := by
  cases hi : P.info? e with
  | none => rw [hi] at h; cases h
  | some i =>
    rw [hi] at h
    simp only [Option.map_some, Option.some.injEq, Prod.mk.injEq] at h
    exact ⟨i, rfl, h.1, h.2.1, h.2.2⟩
def bvs (l : List Nat) : List Value := l.map fun x => Value.int .u8 (x : Nat)
theorem bvs_len (l : List Nat) : (bvs l).length = l.length := by unfold bvs; simp
theorem bvs_app (l m : List Nat) : bvs l ++ bvs m = bvs (l ++ m) := by unfold bvs; simp
theorem bvs_get (l : List Nat) (k : Nat) : (bvs l)[k]? = (l[k]?).map fun x => Value.int .u8 (x : Nat) := by unfold bvs; simp
theorem bvs_one (l : List Nat) : ∀ u ∈ bvs l, u.oneCell' = true := fun u hu => by
  unfold bvs at hu
  simp only [List.mem_map] at hu
  obtain ⟨k, _, rfl⟩ := hu
  rfl
/-- A slice that reads as a list of bytes; its memory lies below B. -/
def Bt (B : Nat) (X : World) (v : Value) (l : List Nat) : Prop := (∀ x ∈ l, x < 256) ∧ ∃ x cap, v = .slice x l.length cap ∧ l.length ≤ cap ∧ cap ≤ 9223372036854775807 ∧ ((x = none ∧ l = [] ∧ cap = 0) ∨ ∃ b o, x = some ⟨b, o, none⟩ ∧ (l ≠ [] → b < B ∧ b < X.heap.size) ∧ ∀ k u, l[k]? = some u → X.cell? ⟨b, o + k, none⟩ = some (.int .u8 (u : Nat)))
theorem Bt.kept {B : Nat} {X Y : World} {v : Value} {l : List Nat} (h : Bt B X v l) (hs : X.heap.size ≤ Y.heap.size) (hk : ∀ b, b < B → b < X.heap.size → Y.heap[b]? = X.heap[b]?) : Bt B Y v l := by
  obtain ⟨h1, x, cap, h2, h3, h4, h5⟩ := h
  refine ⟨h1, x, cap, h2, h3, h4, ?_⟩
  rcases h5 with h5 | ⟨b, o, e, hb, hc⟩
  · exact .inl h5
  · refine .inr ⟨b, o, e, fun hl => ⟨(hb hl).1, Nat.lt_of_lt_of_le (hb hl).2 hs⟩, fun k u hu => ?_⟩
    have hl : l ≠ [] := fun e => by rw [e] at hu; simp at hu
    exact (cell_heap (p := ⟨b, o + k, none⟩) (hk b (hb hl).1 (hb hl).2)).trans (hc k u hu)
theorem Bt.new {B : Nat} {X Y : World} {v : Value} {l : List Nat} (h : Bt B X v l) (k : Below X.heap.size X Y) : Bt B Y v l := h.kept k.size fun b _ hx => k.block b hx
theorem Bt.mono {B C : Nat} {X : World} {v : Value} {l : List Nat} (h : Bt B X v l) (hB : B ≤ C) : Bt C X v l := by
  obtain ⟨h1, x, cap, h2, h3, h4, h5⟩ := h
  refine ⟨h1, x, cap, h2, h3, h4, ?_⟩
  rcases h5 with h5 | ⟨b, o, e, hb, hc⟩
  · exact .inl h5
  · exact .inr ⟨b, o, e, fun hl => ⟨Nat.lt_of_lt_of_le (hb hl).1 hB, (hb hl).2⟩, hc⟩
theorem Abide.bt {β : Type} {B q : Nat} (hB : B ≤ q) (v : Value) (l : List Nat) : Abide q (fun (_ : β) X => Bt B X v l) := fun _ X Y row hs hg hr =>
  Bt.kept hs hg.size fun b hb hx => hg.block b hx (fun e => by have := hr b e.symm; omega)
theorem Bt.below {B n : Nat} {X Y : World} {v : Value} {l : List Nat} (h : Bt B X v l) (hB : B ≤ n) (k : Below n X Y) : Bt B Y v l := h.kept k.size fun b hb _ => k.block b (by omega)
/-- An own row of bytes. -/
def Ow (X : World) (base : Nat) (v : Value) (l : List Nat) : Prop := (∀ x ∈ l, x < 256) ∧ X.ownsRow base 5 1 v l.length (bvs l)
theorem Ow.bt {X : World} {base : Nat} {v : Value} {l : List Nat} (h : Ow X base v l) : Bt X.heap.size X v l := by
  obtain ⟨hs, h⟩ := h
  have h0 := h
  refine ⟨hs, ?_⟩
  rcases h.2 with ⟨hv, hn⟩ | ⟨g, cap, cur, hv, hb, hg, hn, hc, _, _⟩
  · have hl : l = [] := List.eq_nil_of_length_eq_zero hn
    subst hl
    exact ⟨none, 0, hv, Nat.le_refl _, by omega, .inl ⟨rfl, rfl, rfl⟩⟩
  · have hlt := (Array.getElem?_eq_some_iff.1 hg).1
    refine ⟨some ⟨g, 0, none⟩, cap, hv, hn, by unfold maxLen at hc; omega, .inr ⟨g, 0, rfl, fun _ => ⟨hlt, hlt⟩, fun k u hu => ?_⟩⟩
    have h1 := h0.cells (g := g) (by rw [hv]; rfl) k (.int .u8 (u : Nat)) (by rw [bvs_get, hu]; rfl)
    rwa [Go.WideShapes.add_plain] at h1
theorem Ow.is {X : World} {base : Nat} {v : Value} {l : List Nat} (h : Ow X base v l) : ∃ x c, v = .slice x l.length c := by
  obtain ⟨_, x, c, e, _⟩ := h.bt
  exact ⟨x, c, e⟩
theorem Ow.kept {X Y : World} {base : Nat} {v : Value} {l : List Nat} {row : Option Nat} (h : Ow X base v l) (hg : X.grownBy Y row) (hne : ∀ r, row = some r → r < base) : Ow Y base v l := by
  refine ⟨h.1, h.2.kept hg ?_⟩
  cases hv : v.ownBlock with
  | none => exact .inl rfl
  | some k => exact .inr fun e => by have := (h.2.lt k hv).1; have := hne k e.symm; omega
theorem Ow.new {X Y : World} {base : Nat} {v : Value} {l : List Nat} (h : Ow X base v l) (k : Below X.heap.size X Y) : Ow Y base v l := h.kept (grown_new k) (fun _ e => by cases e)
theorem Ow.mono {X : World} {b c : Nat} {v : Value} {l : List Nat} (h : Ow X b v l) (hb : c ≤ b) : Ow X c v l := ⟨h.1, h.2.mono hb⟩
theorem Ow.nil (X : World) (base : Nat) : Ow X base (.slice none 0 0) [] := ⟨by simp, World.ownsRow_nil _ _ _ _⟩
/-- Bytes laid behind an own row of bytes. -/
theorem wpList_app {w : World} {ops : Array Oper} {rest : List Oper} {o : Oper} {a : Act} {Q : Exit → Act → World → Prop} (hgd : o.guard = none) (s x : Operand)
    (ho : o.op = .call { callee := .builtin .append, args := #[s, x], argTypes := #[86, 86] })
    (base : Nat) (l : List Nat) (hown : Ow w base (a.eval s) l) (B : Nat) (m : List Nat) (hx : Bt B w (a.eval x) m) (hn : l.length + m.length ≤ 1000000) (hb : base ≤ w.heap.size)
    (h : ∀ y c w', Ow w' base (.slice y (l ++ m).length c) (l ++ m) → w.grownBy w' (a.eval s).ownBlock → wpList Tryz.prog ops Q rest (a.put o.dst (.slice y (l ++ m).length c)) w') : wpList Tryz.prog ops Q (o :: rest) a w := by
  obtain ⟨i0, hi, hz0, hz1, hz2⟩ := info_parts' infoU8
  have hu : Tryz.prog.underlying 86 = some (.slice 5) := by kernel_rfl
  obtain ⟨hm, y, cap, he, h3, h4, h5⟩ := hx
  rcases h5 with ⟨rfl, rfl, rfl⟩ | ⟨b, q, rfl, hbb, hc⟩
  · refine wpList_append_own_none hgd s x 86 ho base 5 i0 1 hu hi _ _ _ rfl hown.2 he ?_
    obtain ⟨z, c, hv⟩ := hown.is
    have hE : l ++ ([] : List Nat) = l := by simp
    have h' := h z c w
    rw [hE, ← hv] at h'
    exact h' hown (World.grownBy.refl w _)
  · refine wpList_append_own _ hgd s x 86 ho base 5 i0 (.int .u8 0) 1 1 hu hi hz0 hz1 hz2 rfl (by decide) _ l.length (bvs l) rfl hown.2 ⟨b, q, none⟩ m.length cap (bvs m) he (by rw [bvs_len]; omega) ?_ (bvs_one m) (by unfold maxLen; omega) (by omega) hb ?_
    · intro j u hj
      rw [bvs_get] at hj
      cases hmj : m[j]? with
      | none => rw [hmj] at hj; cases hj
      | some v =>
        rw [hmj] at hj
        cases hj
        rw [Go.WideShapes.add_plain]
        exact hc j v hmj
    · intro v' w' ho' hg _
      have hO : Ow w' base v' (l ++ m) := ⟨fun z hz => (List.mem_append.1 hz).elim (hown.1 z) (hm z), by rw [← bvs_app, List.length_append]; exact ho'⟩
      obtain ⟨z, c, rfl⟩ := hO.is
      exact h z c w' hO hg
/-- A slice that reads as these bytes; where it holds none, nothing is said of its place. -/
def Bto (B : Nat) (X : World) (v : Value) (l : List Nat) : Prop := (∀ x ∈ l, x < 256) ∧ ∃ x cap, v = .slice x l.length cap ∧ l.length ≤ cap ∧ l.length ≤ 9223372036854775807 ∧ (l ≠ [] → ∃ b o, x = some ⟨b, o, none⟩ ∧ b < B ∧ b < X.heap.size ∧ ∀ k u, l[k]? = some u → X.cell? ⟨b, o + k, none⟩ = some (.int .u8 (u : Nat)))
theorem Bto.kept {B : Nat} {X Y : World} {v : Value} {l : List Nat} (h : Bto B X v l) (hs : X.heap.size ≤ Y.heap.size) (hk : ∀ b, b < B → b < X.heap.size → Y.heap[b]? = X.heap[b]?) : Bto B Y v l := by
  obtain ⟨h1, x, cap, h2, h3, h4, h5⟩ := h
  refine ⟨h1, x, cap, h2, h3, h4, fun hl => ?_⟩
  obtain ⟨b, o, e, hb, hbx, hc⟩ := h5 hl
  refine ⟨b, o, e, hb, Nat.lt_of_lt_of_le hbx hs, fun k u hu => ?_⟩
  have hh := hk b hb hbx
  rw [← hc k u hu]; simp only [World.cell?, hh]
theorem Bto.new {B : Nat} {X Y : World} {v : Value} {l : List Nat} (h : Bto B X v l) (k : Below X.heap.size X Y) : Bto B Y v l := h.kept k.size fun b _ hx => k.block b hx
theorem Bt.bto {B : Nat} {X : World} {v : Value} {l : List Nat} (h : Bt B X v l) : Bto B X v l := by
  obtain ⟨h1, x, cap, h2, h3, h4, h5⟩ := h
  refine ⟨h1, x, cap, h2, h3, Nat.le_trans h3 h4, fun hl => ?_⟩
  rcases h5 with ⟨_, h, _⟩ | ⟨b, o, e, hb, hc⟩
  · exact (hl h).elim
  · exact ⟨b, o, e, (hb hl).1, (hb hl).2, hc⟩
/-- What bytes are worth. -/
def bv (l : List Nat) : Nat := l.foldl (fun a x => a * 256 + x) 0
theorem bv_from (l : List Nat) : ∀ a, l.foldl (fun a x => a * 256 + x) a = a * 256 ^ l.length + bv l := by
  unfold bv
  induction l with
  | nil => intro a; simp
  | cons x l ih =>
    intro a
    rw [List.foldl_cons, List.foldl_cons, ih, ih (0 * 256 + x), List.length_cons, Nat.pow_succ]
    grind
theorem bv_nil : bv [] = 0 := rfl
theorem bv_app (a b : List Nat) : bv (a ++ b) = bv a * 256 ^ b.length + bv b := by
  show (a ++ b).foldl _ 0 = _
  rw [List.foldl_append, bv_from]
  rfl
theorem bv_cons (x : Nat) (l : List Nat) : bv (x :: l) = x * 256 ^ l.length + bv l := by
  have h := bv_app [x] l
  rw [show [x] ++ l = x :: l from rfl] at h
  rw [h]
  unfold bv
  simp
theorem bv_snoc (l : List Nat) (x : Nat) : bv (l ++ [x]) = bv l * 256 + x := by
  rw [bv_app]
  unfold bv
  simp
theorem bv_lt (l : List Nat) (h : ∀ x ∈ l, x < 256) : bv l < 256 ^ l.length := by
  induction l with
  | nil => show 0 < 256 ^ 0; omega
  | cons x l ih =>
    have h1 := ih fun y hy => h y (by simp [hy])
    have h2 : x + 1 ≤ 256 := h x (by simp)
    have h3 : (x + 1) * 256 ^ l.length ≤ 256 * 256 ^ l.length := Nat.mul_le_mul_right _ h2
    rw [bv_cons, List.length_cons, Nat.pow_succ, Nat.mul_comm (256 ^ l.length)]
    rw [Nat.add_mul, Nat.one_mul] at h3
    omega
/-- One number beside another. -/
def ordN (a b : Nat) : Int := if a < b then -1 else if b < a then 1 else 0
theorem u8_nat (x : Nat) (h : x < 256) : x.toUInt8.toNat = x := by
  show x % 256 = x
  omega
theorem compare_bv : ∀ (l m : List Nat), l.length = m.length → (∀ x ∈ l, x < 256) → (∀ x ∈ m, x < 256) → Lib.compareBytes (l.map Nat.toUInt8) (m.map Nat.toUInt8) = ordN (bv l) (bv m)
  | [], [], _, _, _ => rfl
  | [], _ :: _, h, _, _ => by simp at h
  | _ :: _, [], h, _, _ => by simp at h
  | x :: l, y :: m, h, hl, hm => by
    have h0 : l.length = m.length := by simpa using h
    have ih := compare_bv l m h0 (fun z hz => hl z (by simp [hz])) (fun z hz => hm z (by simp [hz]))
    have hx := hl x (by simp)
    have hy := hm y (by simp)
    have bl := bv_lt l (fun z hz => hl z (by simp [hz]))
    have bm := bv_lt m (fun z hz => hm z (by simp [hz]))
    rw [List.map_cons, List.map_cons]
    unfold Lib.compareBytes
    rw [bv_cons, bv_cons, ← h0, ih]
    rw [← h0] at bm
    have lt1 : ∀ a b : Nat, a < 256 → b < 256 → (a.toUInt8 < b.toUInt8 ↔ a < b) := fun a b ha hb => by
      rw [UInt8.lt_iff_toNat_lt, u8_nat a ha, u8_nat b hb]
    generalize 256 ^ l.length = P at *
    unfold ordN
    by_cases h1 : x < y
    · rw [if_pos ((lt1 x y hx hy).2 h1), if_pos]
      have := Nat.mul_le_mul_right P (show x + 1 ≤ y by omega)
      rw [Nat.succ_mul] at this
      omega
    · rw [if_neg (fun e => h1 ((lt1 x y hx hy).1 e))]
      by_cases h2 : y < x
      · have := Nat.mul_le_mul_right P (show y + 1 ≤ x by omega)
        rw [Nat.succ_mul] at this
        rw [if_pos ((lt1 y x hy hx).2 h2), if_neg (by omega), if_pos (by omega)]
      · rw [if_neg (fun e => h2 ((lt1 y x hy hx).1 e))]
        have e : x = y := by omega
        subst e
        have e1 : (x * P + bv l < x * P + bv m) ↔ bv l < bv m := by omega
        have e2 : (x * P + bv m < x * P + bv l) ↔ bv m < bv l := by omega
        simp only [e1, e2]
theorem run_bytes {B : Nat} {v : Value} {l : List Nat} {w : World} (hv : Bto B w v l) : (Extern.Bytes.bytesOf v).run Tryz.prog w = .ok ⟨(l.map Nat.toUInt8).toArray⟩ w := by
  obtain ⟨hb, x, c, rfl, _, _, hc⟩ := hv
  by_cases hl : l = []
  · subst hl
    cases x with
    | none => rfl
    | some a => rfl
  · obtain ⟨b, o, rfl, _, _, hc⟩ := hc hl
    have hl := Lib.run_loadBytesX (P := Tryz.prog) w (l.map fun x => ((x : Nat) : Int)) ⟨b, o, none⟩ .empty (fun j x hj => by
      rw [List.getElem?_map] at hj
      cases e : l[j]? with
      | none => rw [e] at hj; simp at hj
      | some u =>
        rw [e] at hj
        simp at hj
        have e2 : (⟨b, o, none⟩ : Addr).add j = ⟨b, o + j, none⟩ := by unfold Addr.add; split <;> simp_all
        rw [e2, hc j u e, hj])
    rw [List.length_map] at hl
    show (Extern.Bytes.loadBytes ⟨b, o, none⟩ l.length .empty).run Tryz.prog w = _
    rw [hl]
    congr 1
    apply ByteArray.ext
    simp [Lib.bytesOf]
set_option maxRecDepth 100000 in
theorem bcompare_any (B1 B2 : Nat) (v1 v2 : Value) (l m : List Nat) (w : World) (h1 : Bto B1 w v1 l) (h2 : Bto B2 w v2 m) :
    Calls Tryz.prog 70 #[v1, v2] w fun e w' => e = .returned (.int .i64 (Lib.compareBytes (l.map Nat.toUInt8) (m.map Nat.toUInt8))) ∧ w = w' := by
  have hr : (Extern.BytealgCompare.compare #[v1, v2]).run Tryz.prog w = .ok (.int .i64 (Lib.compareBytes (l.map Nat.toUInt8) (m.map Nat.toUInt8))) w := by
    change Sem.run Tryz.prog (do pure (goInt (Extern.BytealgCompare.cmp (← Extern.Bytes.bytesOf v1) (← Extern.Bytes.bytesOf v2)))) w = _
    simp only [Sem.run_bind, Sem.run_pure, Result.andThen, run_bytes h1, run_bytes h2]
    rw [Lib.cmp_eq]
    rfl
  clear h1 h2
  go_enter Tryz.func70, Tryz.ntmps70
  go_wp2_with fail
  rw [run_callFunc_extern Tryz.func109 (by kernel_rfl) (by kernel_rfl) (by kernel_rfl) (e := Extern.BytealgCompare.compare) (by kernel_rfl), hr]
  simp only [Result.andThen]
  rw [Oper.upon_value]
  go_wp2_with fail
  go_ret
  exact ⟨rfl, rfl⟩
set_option maxRecDepth 100000 in
set_option maxHeartbeats 2000000 in
theorem or_any (i j : Int) (g : Nat) (t : TypeId) (w : World) (hg : Blk w g t #[.int .i64 i, .int .i64 j]) :
    Calls Tryz.prog 40 #[.slice (some ⟨g, 0, none⟩) 2 2] w fun e w' => e = .returned (.int .i64 (if i = 0 then j else i)) ∧ w = w' := by
  have k0 := cell_of_row _ _ 0 _ _ _ hg
  have k1 := cell_of_row _ _ 1 _ _ _ hg
  clear hg
  by_cases h1 : i = 0
  · subst h1
    rw [if_pos rfl]
    by_cases h2 : j = 0
    · subst h2
      go_enter Tryz.func40, Tryz.ntmps40
      go_wp2_with fail
      refine wp_loop_rounds 3 ?_
      rw [rounds_succ]
      go_wp2_with fail
      rw [rounds_succ]
      go_wp2_with fail
      rw [rounds_succ]
      go_wp2_with fail
      go_ret
      exact ⟨rfl, rfl⟩
    · have b2 : (j == 0) = false := by simp [h2]
      go_enter Tryz.func40, Tryz.ntmps40
      go_wp2_with fail
      refine wp_loop_rounds 3 ?_
      rw [rounds_succ]
      go_wp2_with fail
      rw [rounds_succ]
      go_wp2_with fail
      go_ret
      exact ⟨rfl, rfl⟩
  · rw [if_neg h1]
    have b1 : (i == 0) = false := by simp [h1]
    go_enter Tryz.func40, Tryz.ntmps40
    go_wp2_with fail
    refine wp_loop_rounds 3 ?_
    rw [rounds_succ]
    go_wp2_with fail
    go_ret
    exact ⟨rfl, rfl⟩
theorem bv_inj : ∀ (l m : List Nat), l.length = m.length → (∀ x ∈ l, x < 256) → (∀ x ∈ m, x < 256) → bv l = bv m → l = m
  | [], [], _, _, _, _ => rfl
  | [], _ :: _, h, _, _, _ => by simp at h
  | _ :: _, [], h, _, _, _ => by simp at h
  | x :: l, y :: m, h, hl, hm, e => by
    have h' : l.length = m.length := by simpa using h
    have h1 := bv_lt l fun z hz => hl z (by simp [hz])
    have h2 := bv_lt m fun z hz => hm z (by simp [hz])
    rw [bv_cons, bv_cons, h'] at e
    rw [h'] at h1
    have hp : 0 < 256 ^ m.length := Nat.pow_pos (by omega)
    have e1 : bv l = bv m := by
      have := congrArg (· % 256 ^ m.length) e
      simp only [Nat.mul_comm _ (256 ^ m.length), Nat.mul_add_mod] at this
      rwa [Nat.mod_eq_of_lt h1, Nat.mod_eq_of_lt h2] at this
    have e2 : x = y := Nat.eq_of_mul_eq_mul_right hp (by omega)
    rw [e2, bv_inj l m h' (fun z hz => hl z (by simp [hz])) (fun z hz => hm z (by simp [hz])) e1]
end Go.Proofs.YtenepkgjdoddgaaGreatDoor

/- policy: addresses: their order. -/
namespace Go.Proofs.YtenepkgjdoddgaaGreatDoor
open Go.RowKit Go.Shelf

/-- An address: twenty bytes, the highest first. -/
def Ad (a : List Nat) : Prop := a.length = 20 ∧ ∀ x ∈ a, x < 256
/-- An address's cells. -/
def adC (a : List Nat) : Array Value := (bvs a).toArray
theorem adC_get (a : List Nat) (k : Nat) : (adC a)[k]? = (a[k]?).map fun x => Value.int .u8 (x : Nat) := by unfold adC; rw [List.getElem?_toArray, bvs_get]
theorem Ad.cell {a : List Nat} (h : Ad a) {X : World} {b : Nat} {t : TypeId} (hb : Blk X b t (adC a)) (k : Nat) (hk : k < 20) : ∃ x, a[k]? = some x ∧ x < 256 ∧ X.cell? ⟨b, k, none⟩ = some (.int .u8 (x : Nat)) := by
  have hl : k < a.length := by rw [h.1]; exact hk
  refine ⟨a[k], List.getElem?_eq_getElem hl, h.2 _ (List.getElem_mem hl), ?_⟩
  rw [cell_of_row _ _ k _ _ _ hb, adC_get, List.getElem?_eq_getElem hl]
  rfl
theorem Ad.bto {a : List Nat} (h : Ad a) {X : World} {b : Nat} {t : TypeId} (hb : Blk X b t (adC a)) : Bto X.heap.size X (.slice (some ⟨b, 0, none⟩) 20 20) a := by
  refine ⟨h.2, some ⟨b, 0, none⟩, 20, by rw [h.1], by rw [h.1]; exact Nat.le_refl _, by rw [h.1]; omega, fun _ => ⟨b, 0, rfl, hb.lt, hb.lt, fun k u hu => ?_⟩⟩
  rw [Nat.zero_add, cell_of_row _ _ k _ _ _ hb, adC_get, hu]
  rfl
attribute [irreducible] adC
theorem Ad.lt {a : List Nat} (h : Ad a) : bv a < 256 ^ 20 := by rw [← h.1]; exact bv_lt a h.2
theorem Ad.inj {a b : List Nat} (ha : Ad a) (hb : Ad b) (h : bv a = bv b) : a = b := bv_inj a b (by rw [ha.1, hb.1]) ha.2 hb.2 h
/-- The first byte at which two addresses differ decides. -/
theorem bv_first {a b : List Nat} (hl : a.length = b.length) (ha : ∀ x ∈ a, x < 256) (_hb : ∀ x ∈ b, x < 256) {k x y : Nat} (hp : a.take k = b.take k) (hx : a[k]? = some x) (hy : b[k]? = some y) (h : x < y) : bv a < bv b := by
  have ka := (List.getElem?_eq_some_iff.1 hx).1
  have kb := (List.getElem?_eq_some_iff.1 hy).1
  have ea : a = a.take k ++ x :: a.drop (k + 1) := by
    conv => lhs; rw [← List.take_append_drop k a]
    rw [List.drop_eq_getElem_cons ka, (List.getElem?_eq_some_iff.1 hx).2]
  have eb : b = b.take k ++ y :: b.drop (k + 1) := by
    conv => lhs; rw [← List.take_append_drop k b]
    rw [List.drop_eq_getElem_cons kb, (List.getElem?_eq_some_iff.1 hy).2]
  have la := bv_lt (a.drop (k + 1)) fun z hz => ha z (List.mem_of_mem_drop hz)
  have hd : (a.drop (k + 1)).length = (b.drop (k + 1)).length := by rw [List.length_drop, List.length_drop, hl]
  rw [ea, eb, bv_app, bv_app, bv_cons, bv_cons, hp, List.length_cons, List.length_cons, hd]
  rw [hd] at la
  generalize 256 ^ (b.drop (k + 1)).length = P at *
  have := Nat.mul_le_mul_right P (show x + 1 ≤ y by omega)
  rw [Nat.succ_mul] at this
  omega

/-- The two boxes of two addresses. -/
theorem two_boxes (a b : List Nat) (t : TypeId) (w : World) : ∃ X, (w.alloc (.cells (adC a) t)).alloc (.cells (adC b) t) = X ∧ Blk X w.heap.size t (adC a) ∧ Blk X (w.heap.size + 1) t (adC b) ∧ Below w.heap.size w X :=
  ⟨_, rfl, (Blk.new w _ _).alloc _, Blk.newS w _ _ _, balloc (balloc (Below.refl _ _) _) _⟩
set_option maxRecDepth 100000 in
set_option maxHeartbeats 2000000 in
theorem porder_any (a b : List Nat) (ha : Ad a) (hb : Ad b) (w : World) :
    Calls Tryz.prog 29 #[.agg (adC a), .agg (adC b)] w fun e w' => e = .returned (.int .i64 (ordN (bv a) (bv b))) ∧ Below w.heap.size w w' := by
  obtain ⟨X, hX, b1, b2, hW⟩ := two_boxes a b 29 w
  have HX := Lib.hid hX
  have hc : ∀ k, Calls Tryz.prog 70 #[.slice (some ⟨w.heap.size, 0, none⟩) 20 20, .slice (some ⟨w.heap.size + 1, 0, none⟩) 20 20] (X.drewN k) fun e w' => e = .returned (.int .i64 (ordN (bv a) (bv b))) ∧ X.drewN k = w' := fun k => by
    have h := bcompare_any _ _ _ _ a b (X.drewN k) (ha.bto (b1.drewN k)) (hb.bto (b2.drewN k))
    rwa [compare_bv a b (by rw [ha.1, hb.1]) ha.2 hb.2] at h
  have HC := Lib.hid hc
  have HW := Lib.hid hW
  clear hX b1 b2 hW hc ha hb
  go_enter Tryz.func29, Tryz.ntmps29
  go_wp2_with fail
  rw [HX.out]
  go_quiet ((go_at_call 70; exact Calls.quiet_of_same ((HC.out _).mono fun _ _ ⟨h, k⟩ => ⟨h, k.symm⟩)))
  go_wp2_with fail
  go_ret
  exact ⟨rfl, HW.out.trans ⟨rfl, rfl, rfl, Nat.le_refl _, fun _ _ => rfl⟩⟩
set_option maxRecDepth 100000 in
set_option maxHeartbeats 4000000 in
theorem rorder_any (a b : List Nat) (ha : Ad a) (hb : Ad b) (w : World) :
    Calls Tryz.prog 30 #[.agg (adC a), .agg (adC b)] w fun e w' => e = .returned (.int .i64 (ordN (bv a) (bv b))) ∧ Below w.heap.size w w' := by
  obtain ⟨X, hX, b1, b2, hW⟩ := two_boxes a b 29 w
  have HX := Lib.hid hX
  have H0 := Lib.hid (And.intro ha (And.intro hb (And.intro b1 (And.intro b2 hW))))
  clear hX b1 b2 hW ha hb
  go_enter Tryz.func30, Tryz.ntmps30
  go_wp2_with fail
  rw [HX.out]
  go_loopw [5] (fun t wr => ∃ (i : Nat), t = .int .i64 i ∧ i ≤ 20 ∧ a.take i = b.take i ∧ wr.heap = X.heap ∧ Below w.heap.size w wr) (fun t _ => 20 - (intOf t).toNat)
  case atStart => exact ⟨0, rfl, by omega, rfl, rfl, H0.out.2.2.2.2⟩
  case round =>
    obtain ⟨i, rfl, hi, htk, hwh, hW⟩ := hrel
    obtain ⟨ha, hb, b1, b2, _⟩ := H0.out
    have b1 : Blk wr w.heap.size 29 (adC a) := (congrArg (fun h : Array Obj => h[w.heap.size]?) hwh).trans b1
    have b2 : Blk wr (w.heap.size + 1) 29 (adC b) := (congrArg (fun h : Array Obj => h[w.heap.size + 1]?) hwh).trans b2
    have HW := Lib.hid (And.intro hwh hW)
    have HT := Lib.hid htk
    by_cases hlt : i < 20
    · obtain ⟨x, hx, hx2, k1⟩ := ha.cell b1 i hlt
      obtain ⟨y, hy, hy2, k2⟩ := hb.cell b2 i hlt
      have g0 : (i : Int) < 20 := by omega
      have g1 : (0 : Int) ≤ (i : Int) := by omega
      have g2 : IntKind.i64.wrap ((i : Int) + 1) = ((i + 1 : Nat) : Int) := IntWalk.i64_in _ (by omega)
      have d1 := Lib.hid (@bv_first a b (by rw [ha.1, hb.1]) ha.2 hb.2 i x y htk hx hy)
      have d2 := Lib.hid (@bv_first b a (by rw [ha.1, hb.1]) hb.2 ha.2 i y x htk.symm hy hx)
      have HI := Lib.hid (And.intro hx hy)
      clear htk hx hy ha hb b1 b2 hW hwh hx2 hy2
      by_cases c1 : x < y
      · have q1 : (x : Int) < (y : Int) := by omega
        have he : ordN (bv a) (bv b) = -1 := by unfold ordN; rw [if_pos (d1.out c1)]
        have HE := Lib.hid he
        clear he c1
        go_wp2_with fail
        go_quiet (fail)
        go_wp2_with fail
        go_ret
        rw [HE.out]
        exact ⟨rfl, HW.out.2.trans ⟨rfl, rfl, rfl, Nat.le_refl _, fun _ _ => rfl⟩⟩
      · have q1 : ¬ (x : Int) < (y : Int) := by omega
        by_cases c2 : y < x
        · have q2 : (y : Int) < (x : Int) := by omega
          have h3 := d2.out c2
          have he : ordN (bv a) (bv b) = 1 := by unfold ordN; rw [if_neg (by omega), if_pos h3]
          have HE := Lib.hid he
          clear he c1 c2 h3
          go_wp2_with fail
          go_quiet (fail)
          go_wp2_with fail
          go_quiet (fail)
          go_wp2_with fail
          go_ret
          rw [HE.out]
          exact ⟨rfl, HW.out.2.trans ⟨rfl, rfl, rfl, Nat.le_refl _, fun _ _ => rfl⟩⟩
        · obtain rfl : x = y := by omega
          clear c1 c2
          have q2 : ¬ (x : Int) < (x : Int) := by omega
          go_wp2_with fail
          go_quiet (fail)
          go_wp2_with fail
          go_quiet (fail)
          go_wp2_with fail
          have htk : a.take (i + 1) = b.take (i + 1) := by rw [List.take_add_one, List.take_add_one, HT.out, HI.out.1, HI.out.2]
          exact ⟨⟨i + 1, congrArg (Value.int .i64) (by omega), by omega, htk, HW.out.1, HW.out.2.trans ⟨rfl, rfl, rfl, Nat.le_refl _, fun _ _ => rfl⟩⟩, by simp [intOf]; omega⟩
    · obtain rfl : i = 20 := by omega
      have he : ordN (bv a) (bv b) = 0 := by
        rw [List.take_of_length_le (by rw [ha.1]; exact Nat.le_refl _), List.take_of_length_le (by rw [hb.1]; exact Nat.le_refl _)] at htk
        unfold ordN
        rw [htk, if_neg (by omega), if_neg (by omega)]
      have HE := Lib.hid he
      clear he htk ha hb b1 b2 hW hwh
      go_wp2_with fail
      go_ret
      rw [HE.out]
      exact ⟨rfl, HW.out.2⟩
end Go.Proofs.YtenepkgjdoddgaaGreatDoor

/- policy: rules in memory; Clearance. -/
namespace Go.Proofs.YtenepkgjdoddgaaGreatDoor
open Go.RowKit Go.Shelf

/-- A clearance's cells, a release's. -/
def clC (c : List Nat × Nat) : Array Value := (bvs c.1 ++ [Value.int .u64 (c.2 : Nat)]).toArray
def rlC (r : List Nat × Nat × Nat) : Array Value := (bvs r.1 ++ [Value.int .u32 (r.2.1 : Nat), Value.int .u64 (r.2.2 : Nat)]).toArray
/-- A slice that reads as clearances. -/
def ClA (X : World) (v : Value) (cs : List (List Nat × Nat)) : Prop := (∀ c ∈ cs, Ad c.1 ∧ c.2 < 18446744073709551616) ∧ ∃ x cap, v = .slice x cs.length cap ∧ cs.length ≤ 9223372036854775807 ∧ (cs ≠ [] → ∃ b o, x = some ⟨b, o, none⟩ ∧ b < X.heap.size ∧ ∀ k c, cs[k]? = some c → X.rangeAt b (o + k * 21) (clC c).toList)
def RlA (X : World) (v : Value) (rs : List (List Nat × Nat × Nat)) : Prop := (∀ r ∈ rs, Ad r.1 ∧ r.2.1 < 4294967296 ∧ r.2.2 < 18446744073709551616) ∧ ∃ x cap, v = .slice x rs.length cap ∧ rs.length ≤ 9223372036854775807 ∧ (rs ≠ [] → ∃ b o, x = some ⟨b, o, none⟩ ∧ b < X.heap.size ∧ ∀ k r, rs[k]? = some r → X.rangeAt b (o + k * 22) (rlC r).toList)
theorem range_new {X Y : World} {b o : Nat} {cs : List Value} (h : X.rangeAt b o cs) (hb : b < X.heap.size) (k : Below X.heap.size X Y) : Y.rangeAt b o cs := fun j v hv => (k.cell (p := ⟨b, o + j, none⟩) hb).trans (h j v hv)
theorem ClA.new {X Y : World} {v : Value} {cs : List (List Nat × Nat)} (h : ClA X v cs) (k : Below X.heap.size X Y) : ClA Y v cs := by
  obtain ⟨h1, x, cap, h2, h3, h4⟩ := h
  exact ⟨h1, x, cap, h2, h3, fun hne => by obtain ⟨b, o, g1, g2, g3⟩ := h4 hne; exact ⟨b, o, g1, Nat.lt_of_lt_of_le g2 k.size, fun i c hc => range_new (g3 i c hc) g2 k⟩⟩
theorem RlA.new {X Y : World} {v : Value} {rs : List (List Nat × Nat × Nat)} (h : RlA X v rs) (k : Below X.heap.size X Y) : RlA Y v rs := by
  obtain ⟨h1, x, cap, h2, h3, h4⟩ := h
  exact ⟨h1, x, cap, h2, h3, fun hne => by obtain ⟨b, o, g1, g2, g3⟩ := h4 hne; exact ⟨b, o, g1, Nat.lt_of_lt_of_le g2 k.size, fun i c hc => range_new (g3 i c hc) g2 k⟩⟩
theorem und_clear : ∃ d, Tryz.prog.underlying 72 = some d ∧ d.isRow = true := by
  have h : (Tryz.prog.underlying 72).map (fun d => d.isRow) = some true := by kernel_rfl
  cases hd : Tryz.prog.underlying 72 with
  | none => rw [hd] at h; cases h
  | some d => rw [hd] at h; exact ⟨d, rfl, by simpa using h⟩
theorem und_release : ∃ d, Tryz.prog.underlying 74 = some d ∧ d.isRow = true := by
  have h : (Tryz.prog.underlying 74).map (fun d => d.isRow) = some true := by kernel_rfl
  cases hd : Tryz.prog.underlying 74 with
  | none => rw [hd] at h; cases h
  | some d => rw [hd] at h; exact ⟨d, rfl, by simpa using h⟩
theorem und_addr : Tryz.prog.underlying 29 = some (.array 20 5) := by kernel_rfl
theorem clC_len {c : List Nat × Nat} (h : Ad c.1) : (clC c).toList.length = 21 := by unfold clC; simp [bvs_len, h.1]
theorem rlC_len {r : List Nat × Nat × Nat} (h : Ad r.1) : (rlC r).toList.length = 22 := by unfold rlC; simp [bvs_len, h.1]
theorem info_clear : (Tryz.prog.info? 72).map (·.size) = some 21 := by kernel_rfl
theorem info_release : (Tryz.prog.info? 74).map (·.size) = some 22 := by kernel_rfl
theorem info_addr : (Tryz.prog.info? 29).map (·.size) = some 20 := by kernel_rfl
theorem load_clear {c : List Nat × Nat} (h : Ad c.1) (X : World) (b o : Nat) (hc : X.rangeAt b o (clC c).toList) : (Instr.loadAt 72 (.pointer (some ⟨b, o, none⟩))).run Tryz.prog X = .ok (.agg (clC c)) X := by
  obtain ⟨d, h1, h2⟩ := und_clear
  have h := run_loadAt_mid (P := Tryz.prog) X b o 72 (clC c).toList d hc h1 h2 (by rw [info_clear, clC_len h])
  rwa [Array.toArray_toList] at h
theorem load_release {r : List Nat × Nat × Nat} (h : Ad r.1) (X : World) (b o : Nat) (hc : X.rangeAt b o (rlC r).toList) : (Instr.loadAt 74 (.pointer (some ⟨b, o, none⟩))).run Tryz.prog X = .ok (.agg (rlC r)) X := by
  obtain ⟨d, h1, h2⟩ := und_release
  have h := run_loadAt_mid (P := Tryz.prog) X b o 74 (rlC r).toList d hc h1 h2 (by rw [info_release, rlC_len h])
  rwa [Array.toArray_toList] at h
theorem load_addr {a : List Nat} (h : Ad a) (X : World) (b o : Nat) (hc : X.rangeAt b o (bvs a)) : (Instr.loadAt 29 (.pointer (some ⟨b, o, none⟩))).run Tryz.prog X = .ok (.agg (adC a)) X := by
  have h := run_loadAt_mid (P := Tryz.prog) X b o 29 (bvs a) _ hc und_addr rfl (by rw [info_addr, bvs_len, h.1])
  unfold adC
  exact h
/-- The address of a clearance, its label. -/
theorem cl_addr {c : List Nat × Nat} {X : World} {b o : Nat} (hc : X.rangeAt b o (clC c).toList) : X.rangeAt b o (bvs c.1) := fun j v hv => hc j v (by unfold clC; rw [List.getElem?_append_left (List.getElem?_eq_some_iff.1 hv).1]; exact hv)
theorem cl_label {c : List Nat × Nat} (h : Ad c.1) {X : World} {b o : Nat} (hc : X.rangeAt b o (clC c).toList) : X.cell? ⟨b, o + 20, none⟩ = some (.int .u64 (c.2 : Nat)) := hc 20 _ (by unfold clC; rw [List.getElem?_append_right (by rw [bvs_len, h.1]; exact Nat.le_refl _), bvs_len, h.1]; rfl)
theorem rl_addr {r : List Nat × Nat × Nat} {X : World} {b o : Nat} (hc : X.rangeAt b o (rlC r).toList) : X.rangeAt b o (bvs r.1) := fun j v hv => hc j v (by unfold rlC; rw [List.getElem?_append_left (List.getElem?_eq_some_iff.1 hv).1]; exact hv)
theorem rl_entry {r : List Nat × Nat × Nat} (h : Ad r.1) {X : World} {b o : Nat} (hc : X.rangeAt b o (rlC r).toList) : X.cell? ⟨b, o + 20, none⟩ = some (.int .u32 (r.2.1 : Nat)) := hc 20 _ (by unfold rlC; rw [List.getElem?_append_right (by rw [bvs_len, h.1]; exact Nat.le_refl _), bvs_len, h.1]; rfl)
theorem rl_target {r : List Nat × Nat × Nat} (h : Ad r.1) {X : World} {b o : Nat} (hc : X.rangeAt b o (rlC r).toList) : X.cell? ⟨b, o + 21, none⟩ = some (.int .u64 (r.2.2 : Nat)) := hc 21 _ (by unfold rlC; rw [List.getElem?_append_right (by rw [bvs_len, h.1]; omega), bvs_len, h.1]; rfl)
set_option maxRecDepth 100000 in
theorem eq_addr {a b : List Nat} (ha : Ad a) (hb : Ad b) (w : World) : (binOp .eql 29 (.agg (adC a)) (.agg (adC b))).run Tryz.prog w = .ok (.bool (decide (a = b))) w := by
  obtain ⟨i, hi⟩ : ∃ i, Tryz.prog.info? 5 = some i := Option.isSome_iff_exists.1 (by kernel_rfl)
  have h := run_eql_ints (P := Tryz.prog) und_addr (show Tryz.prog.underlying 5 = some (.int .u8) by kernel_rfl) hi (by kernel_rfl) (adC a) (adC b) (fun j => ((a.getD j 0 : Nat) : Int)) (fun j => ((b.getD j 0 : Nat) : Int)) (fun j hj => by
    have h1 : j < a.length := by rw [ha.1]; exact hj
    have h2 : j < b.length := by rw [hb.1]; exact hj
    rw [adC_get, adC_get, List.getElem?_eq_getElem h1, List.getElem?_eq_getElem h2, List.getD_eq_getElem?_getD, List.getD_eq_getElem?_getD, List.getElem?_eq_getElem h1, List.getElem?_eq_getElem h2]
    exact ⟨rfl, rfl⟩) w
  rw [h]
  refine congrArg (fun b => Result.ok (Value.bool b) w) ?_
  rw [Bool.eq_iff_iff, List.all_eq_true, decide_eq_true_iff]
  constructor
  · intro h
    apply List.ext_getElem?
    intro j
    by_cases hj : j < 20
    · have h1 : j < a.length := by rw [ha.1]; exact hj
      have h2 : j < b.length := by rw [hb.1]; exact hj
      have h3 := h j (List.mem_range.2 hj)
      simp only [List.getD_eq_getElem?_getD, List.getElem?_eq_getElem h1, List.getElem?_eq_getElem h2, Option.getD_some, beq_iff_eq, Int.natCast_inj] at h3
      rw [List.getElem?_eq_getElem h1, List.getElem?_eq_getElem h2, h3]
    · rw [List.getElem?_eq_none (by rw [ha.1]; omega), List.getElem?_eq_none (by rw [hb.1]; omega)]
  · intro h j _
    rw [h]
    simp
theorem wpList_load_midA {P : Program} {ops : Array Oper} {rest : List Oper} {op : Oper} {a : Act} {w : World} {Q : Exit → Act → World → Prop} (hgd : op.guard = none) (ty : TypeId) (x : Operand) (ho : op.op = .load ty x)
    (b o : Nat) (hx : a.eval x = .pointer (some ⟨b, o, none⟩)) (cs : Array Value) (d : TypeDesc) (hc : w.rangeAt b o cs.toList)
    (hu : P.underlying ty = some d) (hd : d.isRow = true) (hi : (P.info? ty).map (·.size) = some cs.size)
    (h : wpList P ops Q rest (a.put op.dst (.agg cs)) w) : wpList P ops Q (op :: rest) a w :=
  wpList_load_mid hgd ty x ho b o hx cs.toList d hc hu hd (by simpa using hi) (by rwa [Array.toArray_toList])
def zcC : Array Value := #[.int .u8 0, .int .u8 0, .int .u8 0, .int .u8 0, .int .u8 0, .int .u8 0, .int .u8 0, .int .u8 0, .int .u8 0, .int .u8 0, .int .u8 0, .int .u8 0, .int .u8 0, .int .u8 0, .int .u8 0, .int .u8 0, .int .u8 0, .int .u8 0, .int .u8 0, .int .u8 0, .int .u64 0]
theorem zcC_lit : zcC = #[.int .u8 0, .int .u8 0, .int .u8 0, .int .u8 0, .int .u8 0, .int .u8 0, .int .u8 0, .int .u8 0, .int .u8 0, .int .u8 0, .int .u8 0, .int .u8 0, .int .u8 0, .int .u8 0, .int .u8 0, .int .u8 0, .int .u8 0, .int .u8 0, .int .u8 0, .int .u8 0, .int .u64 0] := rfl
attribute [irreducible] zcC
theorem clC_size {c : List Nat × Nat} (h : Ad c.1) : (clC c).size = 21 := by have := clC_len h; rwa [Array.length_toList] at this
theorem clC_one (c : List Nat × Nat) : (clC c).all (·.oneCell') = true := by
  unfold clC
  refine all_oneCell_toArray fun v hv => ?_
  rcases List.mem_append.1 hv with h | h
  · exact bvs_one c.1 v h
  · simp at h; subst h; rfl
theorem adC_size {a : List Nat} (h : Ad a) : (adC a).size = 20 := by unfold adC; simp [bvs_len, h.1]
theorem adC_list (a : List Nat) : (adC a).toList = bvs a := by unfold adC; rfl
theorem Blk.range {X : World} {b : Nat} {t : TypeId} {cs : Array Value} (h : Blk X b t cs) : X.rangeAt b 0 cs.toList := fun j v hv => by
  rw [Nat.zero_add, cell_of_row _ _ j _ _ _ h, ← Array.getElem?_toList]
  exact hv
/-- What an address may know. -/
def clr (d : Nat) (a : List Nat) : List (List Nat × Nat) → Nat
  | [] => d
  | c :: cs => if c.1 = a then c.2 else clr d a cs
theorem clr_step (d : Nat) (a : List Nat) (cs : List (List Nat × Nat)) (k : Nat) (c : List Nat × Nat) (h : cs[k]? = some c) : clr d a (cs.drop k) = if c.1 = a then c.2 else clr d a (cs.drop (k + 1)) := by
  rw [List.drop_eq_getElem_cons (List.getElem?_eq_some_iff.1 h).1, (List.getElem?_eq_some_iff.1 h).2]
  rfl

set_option maxRecDepth 100000 in
set_option maxHeartbeats 4000000 in
theorem clearance_any (d : Nat) (cv rv : Value) (cs : List (List Nat × Nat)) (a : List Nat) (w : World) (hcs : ClA w cv cs) (ha : Ad a) :
    Calls Tryz.prog 16 #[.agg #[.int .u64 d, cv, rv], .agg (adC a)] w fun e w' => e = .returned (.int .u64 (clr d a cs : Nat)) ∧ Below w.heap.size w w' := by
  obtain ⟨X, hX⟩ : ∃ X, (w.alloc (.cells #[.int .u64 d, cv, rv] 27)).alloc (.cells (adC a) 29) = X := ⟨_, rfl⟩
  have b1 : Blk X w.heap.size 27 #[.int .u64 d, cv, rv] := by rw [← hX]; exact (Blk.new w _ _).alloc _
  have b2 : Blk X (w.heap.size + 1) 29 (adC a) := by rw [← hX]; exact Blk.newS w _ _ _
  have hW : Below w.heap.size w X := by rw [← hX]; exact balloc (balloc (Below.refl _ _) _) _
  have HX := Lib.hid hX
  have k1 := cell_of_row _ _ 1 _ _ _ b1
  obtain ⟨x, cap, rfl, hl, hcells⟩ := hcs.2
  have H0 := Lib.hid (And.intro b1 (And.intro b2 (And.intro hW (And.intro hcs ha))))
  obtain ⟨n, hn⟩ : ∃ n, cs.length = n := ⟨_, rfl⟩
  have HN := Lib.hid hn
  rw [hn] at k1 hl HX ⊢
  clear hX b1 b2 hW hcs ha hcells hn
  go_enter Tryz.func16, Tryz.ntmps16
  go_wp2_with fail
  rw [HX.out]
  clear k1
  go_loopw [10] (fun t wr => ∃ k : Nat, k ≤ n ∧ t = .int .i64 k ∧ Below X.heap.size X wr ∧ clr d a cs = clr d a (cs.drop k)) (fun t _ => n - (intOf t).toNat)
  case atStart => exact ⟨0, Nat.zero_le _, rfl, Below.refl _ _, rfl⟩
  case round =>
    obtain ⟨k, hk, rfl, hXw, hcl⟩ := hrel
    obtain ⟨b1, b2, hW, hcs, ha⟩ := H0.out
    have hWr := hW.trans (hXw.mono hW.size)
    by_cases hlt : k < n
    · obtain ⟨c, hc⟩ : ∃ c, cs[k]? = some c := ⟨_, List.getElem?_eq_getElem (by have := HN.out; omega)⟩
      obtain ⟨hca, hcl2⟩ := hcs.1 c (List.mem_of_getElem? hc)
      obtain ⟨_, x', cap', he, _, hcells⟩ := hcs.new hWr
      obtain ⟨b, o, hx', hbl, hrng⟩ := hcells (fun e => by rw [e] at hc; cases hc)
      injection he with e1 e2 e3
      rw [← e1] at hx'
      subst hx'
      have hr := hrng k c hc
      obtain ⟨dd, hd1, hd2⟩ := und_clear
      have hzs : zcC.size = 21 := by rw [zcC_lit]; rfl
      have g0 : (k : Int) < (n : Int) := by omega
      have g1 : (0 : Int) ≤ (k : Int) := by omega
      have g2 : IntKind.i64.wrap ((k : Int) + 1) = ((k + 1 : Nat) : Int) := IntWalk.i64_in _ (by omega)
      have hst := clr_step d a cs k c hc
      have hB2 := b2.keep hXw
      have hQ := eq_addr hca ha
      have HS := Lib.hid (And.intro hst (And.intro hcl (And.intro hXw (And.intro hr (And.intro hB2 (And.intro hca (And.intro hd1 (And.intro hd2 (And.intro hzs (And.intro ha hQ))))))))))
      clear hst hcl hXw hr hrng hcells e1 e2 e3 hc b1 b2 hW hcs hB2 hQ hzs hd1 hd2 hca ha
      go_upto_region 3 with fail
      refine wp_region_lit ?_
      refine wpList_plain rfl fun K hK => ?_
      go_simp
      refine hK _ _ ?_
      clear hK K
      refine wpList_load_midA rfl 72 (.tmp 12) rfl b (o + k * 21) rfl (clC c) dd HS.out.2.2.2.1 HS.out.2.2.2.2.2.2.1 HS.out.2.2.2.2.2.2.2.1 (by rw [info_clear, clC_size HS.out.2.2.2.2.2.1]) ?_
      refine wpList_plain rfl fun K hK => ?_
      go_simp
      refine hK _ _ ?_
      clear hK K
      rw [← zcC_lit]
      refine wpList_store_row rfl 72 (.tmp 6) (.tmp 13) rfl wr.heap.size (clC c) rfl rfl 72 zcC (Blk.new wr _ _) (by rw [info_clear, clC_size HS.out.2.2.2.2.2.1]) (by rw [clC_size HS.out.2.2.2.2.2.1, HS.out.2.2.2.2.2.2.2.2.1]) (clC_one c) (wpList_nil ?_)
      rw [World.setRow_alloc_new]
      obtain ⟨w2, hw2⟩ : ∃ w2, wr.alloc (.cells (clC c) 72) = w2 := ⟨_, rfl⟩
      have hN : Blk w2 wr.heap.size 72 (clC c) := by rw [← hw2]; exact Blk.new wr _ _
      have hb : Below wr.heap.size wr w2 := by rw [← hw2]; exact balloc (Below.refl _ wr) _
      have kl := cl_label HS.out.2.2.2.2.2.1 hN.range
      rw [Nat.zero_add] at kl
      rw [hw2]
      have H2 := Lib.hid (And.intro (cl_addr hN.range) (And.intro hb (HS.out.2.2.2.2.1.keep hb)))
      clear hw2 hN hb
      go_upto_region 4 with fail
      refine wp_region_lit ?_
      refine wpList_plain rfl fun K hK => ?_
      go_simp
      refine hK _ _ ?_
      clear hK K
      refine wpList_load_midA rfl 29 (.tmp 14) rfl wr.heap.size 0 rfl (adC c.1) _ (by rw [adC_list]; exact H2.out.1) und_addr rfl (by rw [info_addr, adC_size HS.out.2.2.2.2.2.1]) ?_
      refine wpList_load_midA rfl 29 (.tmp 3) rfl (w.heap.size + 1) 0 rfl (adC a) _ H2.out.2.2.range und_addr rfl (by rw [info_addr, adC_size HS.out.2.2.2.2.2.2.2.2.2.1]) ?_
      refine wpList_plain rfl fun K hK => ?_
      have hQ := HS.out.2.2.2.2.2.2.2.2.2.2
      by_cases hca : c.1 = a
      · rw [decide_eq_true hca] at hQ
        have HCA := Lib.hid hca
        clear hca
        go_simp
        refine hK _ _ ?_
        clear hK K hQ
        go_wp2_with fail
        go_ret
        obtain ⟨s1, s2, s3, _⟩ := HS.out
        rw [s2, s1, if_pos HCA.out]
        exact ⟨rfl, hWr.trans (H2.out.2.1.mono hWr.size)⟩
      · rw [decide_eq_false hca] at hQ
        have HCA := Lib.hid hca
        clear hca
        go_simp
        refine hK _ _ ?_
        clear hK K hQ
        go_wp2_with fail
        obtain ⟨s1, s2, s3, _⟩ := HS.out
        rw [if_neg HCA.out] at s1
        exact ⟨⟨k + 1, by omega, congrArg (Value.int .i64) (by omega), s3.trans (H2.out.2.1.mono s3.size), s2.trans s1⟩, by simp [intOf]; omega⟩
    · obtain rfl : n = k := by omega
      have kd := cell_of_row _ _ 0 _ _ _ (b1.keep hXw)
      have he : clr d a cs = d := by rw [hcl, List.drop_of_length_le (by rw [HN.out]; exact Nat.le_refl _)]; rfl
      have HE := Lib.hid he
      clear he hcl hXw b1 b2 hW hcs ha
      go_wp2_with fail
      go_ret
      rw [HE.out]
      exact ⟨rfl, hWr⟩
end Go.Proofs.YtenepkgjdoddgaaGreatDoor

/- policy: the reference's Clearance. -/
namespace Go.Proofs.YtenepkgjdoddgaaGreatDoor
open Go.RowKit Go.Shelf

theorem yieldsIf_load_A {P : Program} {ops : Array Oper} {S : World → Prop} {op : Oper} {a : Act} (hw : Region.wanted op (yielded ops a.tmps) = true) (ty : TypeId) (x : Operand) (ho : op.op = .load ty x)
    (b o : Nat) (hx : a.eval x = .pointer (some ⟨b, o, none⟩)) (cs : Array Value) (d : TypeDesc) (hS : ∀ w, S w → w.rangeAt b o cs.toList)
    (hu : P.underlying ty = some d) (hd : d.isRow = true) (hi : (P.info? ty).map (·.size) = some cs.size) : YieldsIf P ops S op (.agg cs) a := by
  have h := yieldsIf_load_mid (P := P) (ops := ops) (S := S) hw ty x ho b o hx cs.toList d hS hu hd hi
  rwa [Array.toArray_toList] at h
theorem range_same {X Y : World} {b o : Nat} {cs : List Value} (h : X.rangeAt b o cs) (e : ∀ p, Y.cell? p = X.cell? p) : Y.rangeAt b o cs := fun j v hv => (e _).trans (h j v hv)

set_option maxRecDepth 100000 in
set_option maxHeartbeats 4000000 in
theorem rclearance_any (d : Nat) (cv rv : Value) (cs : List (List Nat × Nat)) (a : List Nat) (w : World) (hcs : ClA w cv cs) (ha : Ad a) :
    Calls Tryz.prog 17 #[.agg #[.int .u64 d, cv, rv], .agg (adC a)] w fun e w' => e = .returned (.int .u64 (clr d a cs : Nat)) ∧ Below w.heap.size w w' := by
  obtain ⟨X, hX⟩ : ∃ X, (w.alloc (.cells #[.int .u64 d, cv, rv] 27)).alloc (.cells (adC a) 29) = X := ⟨_, rfl⟩
  have b1 : Blk X w.heap.size 27 #[.int .u64 d, cv, rv] := by rw [← hX]; exact (Blk.new w _ _).alloc _
  have b2 : Blk X (w.heap.size + 1) 29 (adC a) := by rw [← hX]; exact Blk.newS w _ _ _
  have hW : Below w.heap.size w X := by rw [← hX]; exact balloc (balloc (Below.refl _ _) _) _
  have HX := Lib.hid hX
  obtain ⟨x, cap, rfl, hl, hcells⟩ := hcs.2
  have H0 := Lib.hid (And.intro b1 (And.intro b2 (And.intro hW (And.intro hcs ha))))
  obtain ⟨n, hn⟩ : ∃ n, cs.length = n := ⟨_, rfl⟩
  have HN := Lib.hid hn
  rw [hn] at hl HX ⊢
  clear hX b1 b2 hW hcs ha hcells hn
  go_enter Tryz.func17, Tryz.ntmps17
  go_wp2_with fail
  rw [HX.out]
  go_loopw [5] (fun t wr => ∃ k : Nat, k ≤ n ∧ t = .int .i64 k ∧ Below X.heap.size X wr ∧ clr d a cs = clr d a (cs.drop k)) (fun t _ => n - (intOf t).toNat)
  case atStart => exact ⟨0, Nat.zero_le _, rfl, Below.refl _ _, rfl⟩
  case round =>
    obtain ⟨k, hk, rfl, hXw, hcl⟩ := hrel
    obtain ⟨b1, b2, hW, hcs, ha⟩ := H0.out
    have hWr := hW.trans (hXw.mono hW.size)
    have hb1 := b1.keep hXw
    rw [HN.out] at hb1
    have k1 := cell_of_row _ _ 1 _ _ _ hb1
    by_cases hlt : k < n
    · obtain ⟨c, hc⟩ : ∃ c, cs[k]? = some c := ⟨_, List.getElem?_eq_getElem (by have := HN.out; omega)⟩
      obtain ⟨hca, hcl2⟩ := hcs.1 c (List.mem_of_getElem? hc)
      obtain ⟨_, x', cap', he, _, hcells⟩ := hcs.new hWr
      obtain ⟨b, o, hx', hbl, hrng⟩ := hcells (fun e => by rw [e] at hc; cases hc)
      injection he with e1 e2 e3
      rw [← e1] at hx'
      subst hx'
      have hr := hrng k c hc
      have kl := cl_label hca hr
      have g0 : (k : Int) < (n : Int) := by omega
      have g1 : (0 : Int) ≤ (k : Int) := by omega
      have g2 : IntKind.i64.wrap ((k : Int) + 1) = ((k + 1 : Nat) : Int) := IntWalk.i64_in _ (by omega)
      have hst := clr_step d a cs k c hc
      have hB2 := b2.keep hXw
      have hQ := eq_addr hca ha
      have HS := Lib.hid (And.intro hst (And.intro hcl (And.intro hXw (And.intro hr (And.intro hB2 (And.intro hca (And.intro ha hQ)))))))
      clear hst hcl hXw hr hrng hcells e1 e2 e3 hc b1 b2 hW hcs hB2 hQ hca ha hb1
      go_upto_region 4 with fail
      --REG4
      have hQ := HS.out.2.2.2.2.2.2.2
      by_cases hca : c.1 = a
      · rw [decide_eq_true hca] at hQ
        have HCA := Lib.hid hca
        clear hca
        refine wp_region_held_drew (S := fun w' => ∀ p, w'.cell? p = wr.cell? p) (by as_aux_lemma => kernel_rfl) (fun _ => rfl) (fun hHeld => ?_)
        simp only [List.size_toArray, List.length_cons, List.length_nil, Nat.reduceAdd, Array.replicate_succ, Array.replicate_zero, List.push_toArray, List.nil_append, List.cons_append]
        refine wpAnyH_take (i := 0) (oi := { dst := some 13, op := Op.fieldAddr 27 (Operand.tmp 2) 1, type := 0, pos := "ref.go:34", after := #[], guard := none }) (v := ?vq0a) rfl (by as_aux_lemma => kernel_rfl) (by as_aux_lemma => kernel_rfl) (by as_aux_lemma => kernel_rfl) (fun _ _ _ h => h) (Or.inl ⟨by rfl, ?yq0a⟩) (by assumption) ?rq0a
        case yq0a => (intro wS hSw; (try dsimp only at hSw); have kq := (hSw ⟨w.heap.size, 1, none⟩).trans k1; go_simp <;> with_reducible rfl)
        simp only [Act.put, List.setIfInBounds_toArray, List.set_cons_zero, List.set_cons_succ]
        refine wpAnyH_take (i := 1) (oi := { dst := some 14, op := Op.load 24 (Operand.tmp 13), type := 24, pos := "ref.go:34", after := #[{ on := 0, ground := Ground.data }], guard := none }) (v := ?vq1a) rfl (by as_aux_lemma => kernel_rfl) (by as_aux_lemma => kernel_rfl) (by as_aux_lemma => kernel_rfl) (fun _ _ _ h => h) (Or.inl ⟨by rfl, ?yq1a⟩) (by assumption) ?rq1a
        case yq1a => (intro wS hSw; (try dsimp only at hSw); have kq := (hSw ⟨w.heap.size, 1, none⟩).trans k1; go_simp <;> with_reducible rfl)
        simp only [Act.put, List.setIfInBounds_toArray, List.set_cons_zero, List.set_cons_succ]
        refine wpAnyH_take (i := 2) (oi := { dst := some 15, op := Op.move (Operand.tmp 5), type := 3, pos := "ref.go:34", after := #[], guard := none }) (v := ?vq2a) rfl (by as_aux_lemma => kernel_rfl) (by as_aux_lemma => kernel_rfl) (by as_aux_lemma => kernel_rfl) (fun _ _ _ h => h) (Or.inl ⟨by rfl, ?yq2a⟩) (by assumption) ?rq2a
        case yq2a => (intro wS hSw; (try dsimp only at hSw); have kq := (hSw ⟨w.heap.size, 1, none⟩).trans k1; go_simp <;> with_reducible rfl)
        simp only [Act.put, List.setIfInBounds_toArray, List.set_cons_zero, List.set_cons_succ]
        refine wpAnyH_take (i := 3) (oi := { dst := some 16, op := Op.indexAddr 24 (Operand.tmp 14) (Operand.tmp 15), type := 0, pos := "ref.go:34", after := #[{ on := 1, ground := Ground.data }, { on := 2, ground := Ground.data }], guard := none }) (v := ?vq3a) rfl (by as_aux_lemma => kernel_rfl) (by as_aux_lemma => kernel_rfl) (by as_aux_lemma => kernel_rfl) (fun _ _ _ h => h) (Or.inl ⟨by rfl, ?yq3a⟩) (by assumption) ?rq3a
        case yq3a => (intro wS hSw; (try dsimp only at hSw); have kq := (hSw ⟨w.heap.size, 1, none⟩).trans k1; go_simp <;> with_reducible rfl)
        simp only [Act.put, List.setIfInBounds_toArray, List.set_cons_zero, List.set_cons_succ]
        refine wpAnyH_take (i := 4) (oi := { dst := some 17, op := Op.fieldAddr 72 (Operand.tmp 16) 0, type := 0, pos := "ref.go:34", after := #[{ on := 3, ground := Ground.data }], guard := none }) (v := ?vq4a) rfl (by as_aux_lemma => kernel_rfl) (by as_aux_lemma => kernel_rfl) (by as_aux_lemma => kernel_rfl) (fun _ _ _ h => h) (Or.inl ⟨by rfl, ?yq4a⟩) (by assumption) ?rq4a
        case yq4a => (intro wS hSw; (try dsimp only at hSw); have kq := (hSw ⟨w.heap.size, 1, none⟩).trans k1; go_simp <;> with_reducible rfl)
        simp only [Act.put, List.setIfInBounds_toArray, List.set_cons_zero, List.set_cons_succ]
        refine wpAnyH_take (i := 5) (oi := { dst := some 18, op := Op.load 29 (Operand.tmp 17), type := 29, pos := "ref.go:34", after := #[{ on := 4, ground := Ground.data }], guard := none }) (v := .agg (adC c.1)) rfl (by as_aux_lemma => kernel_rfl) (by as_aux_lemma => kernel_rfl) (by as_aux_lemma => kernel_rfl) (fun _ _ _ h => h) (yieldsIf_load_A (by rfl) 29 (.tmp 17) rfl (b) (o + k * 21) rfl (adC c.1) _ (fun w hw => by rw [adC_list]; exact range_same (cl_addr HS.out.2.2.2.1) hw) und_addr rfl (by rw [info_addr, adC_size HS.out.2.2.2.2.2.1])) (by assumption) ?_
        simp only [Act.put, List.setIfInBounds_toArray, List.set_cons_zero, List.set_cons_succ]
        refine wpAnyH_take (i := 6) (oi := { dst := some 19, op := Op.load 29 (Operand.tmp 3), type := 29, pos := "ref.go:34", after := #[], guard := none }) (v := .agg (adC a)) rfl (by as_aux_lemma => kernel_rfl) (by as_aux_lemma => kernel_rfl) (by as_aux_lemma => kernel_rfl) (fun _ _ _ h => h) (yieldsIf_load_A (by rfl) 29 (.tmp 3) rfl (w.heap.size + 1) (0) rfl (adC a) _ (fun w hw => range_same HS.out.2.2.2.2.1.range hw) und_addr rfl (by rw [info_addr, adC_size HS.out.2.2.2.2.2.2.1])) (by assumption) ?_
        simp only [Act.put, List.setIfInBounds_toArray, List.set_cons_zero, List.set_cons_succ]
        refine wpAnyH_take (i := 7) (oi := { dst := some 20, op := Op.binOp BinOp.eql 29 (Operand.tmp 18) (Operand.tmp 19) 29, type := 4, pos := "ref.go:34", after := #[{ on := 5, ground := Ground.data }, { on := 6, ground := Ground.data }], guard := none }) (v := ?vq7a) rfl (by as_aux_lemma => kernel_rfl) (by as_aux_lemma => kernel_rfl) (by as_aux_lemma => kernel_rfl) (fun _ _ _ h => h) (Or.inl ⟨by rfl, ?yq7a⟩) (by assumption) ?rq7a
        case yq7a => (intro wS hSw; (try dsimp only at hSw); have kq := (hSw ⟨w.heap.size, 1, none⟩).trans k1; go_simp <;> with_reducible rfl)
        simp only [Act.put, List.setIfInBounds_toArray, List.set_cons_zero, List.set_cons_succ]
        refine wpAnyH_done (by as_aux_lemma => kernel_rfl) ?_ _
        clear hHeld hQ
        go_wp2_with fail
        go_ret
        obtain ⟨s1, s2, s3, _⟩ := HS.out
        rw [s2, s1, if_pos HCA.out]
        exact ⟨rfl, hWr.trans ⟨rfl, rfl, rfl, Nat.le_refl _, fun _ _ => rfl⟩⟩
      · rw [decide_eq_false hca] at hQ
        have HCA := Lib.hid hca
        clear hca
        refine wp_region_held_drew (S := fun w' => ∀ p, w'.cell? p = wr.cell? p) (by as_aux_lemma => kernel_rfl) (fun _ => rfl) (fun hHeld => ?_)
        simp only [List.size_toArray, List.length_cons, List.length_nil, Nat.reduceAdd, Array.replicate_succ, Array.replicate_zero, List.push_toArray, List.nil_append, List.cons_append]
        refine wpAnyH_take (i := 0) (oi := { dst := some 13, op := Op.fieldAddr 27 (Operand.tmp 2) 1, type := 0, pos := "ref.go:34", after := #[], guard := none }) (v := ?vq0b) rfl (by as_aux_lemma => kernel_rfl) (by as_aux_lemma => kernel_rfl) (by as_aux_lemma => kernel_rfl) (fun _ _ _ h => h) (Or.inl ⟨by rfl, ?yq0b⟩) (by assumption) ?rq0b
        case yq0b => (intro wS hSw; (try dsimp only at hSw); have kq := (hSw ⟨w.heap.size, 1, none⟩).trans k1; go_simp <;> with_reducible rfl)
        simp only [Act.put, List.setIfInBounds_toArray, List.set_cons_zero, List.set_cons_succ]
        refine wpAnyH_take (i := 1) (oi := { dst := some 14, op := Op.load 24 (Operand.tmp 13), type := 24, pos := "ref.go:34", after := #[{ on := 0, ground := Ground.data }], guard := none }) (v := ?vq1b) rfl (by as_aux_lemma => kernel_rfl) (by as_aux_lemma => kernel_rfl) (by as_aux_lemma => kernel_rfl) (fun _ _ _ h => h) (Or.inl ⟨by rfl, ?yq1b⟩) (by assumption) ?rq1b
        case yq1b => (intro wS hSw; (try dsimp only at hSw); have kq := (hSw ⟨w.heap.size, 1, none⟩).trans k1; go_simp <;> with_reducible rfl)
        simp only [Act.put, List.setIfInBounds_toArray, List.set_cons_zero, List.set_cons_succ]
        refine wpAnyH_take (i := 2) (oi := { dst := some 15, op := Op.move (Operand.tmp 5), type := 3, pos := "ref.go:34", after := #[], guard := none }) (v := ?vq2b) rfl (by as_aux_lemma => kernel_rfl) (by as_aux_lemma => kernel_rfl) (by as_aux_lemma => kernel_rfl) (fun _ _ _ h => h) (Or.inl ⟨by rfl, ?yq2b⟩) (by assumption) ?rq2b
        case yq2b => (intro wS hSw; (try dsimp only at hSw); have kq := (hSw ⟨w.heap.size, 1, none⟩).trans k1; go_simp <;> with_reducible rfl)
        simp only [Act.put, List.setIfInBounds_toArray, List.set_cons_zero, List.set_cons_succ]
        refine wpAnyH_take (i := 3) (oi := { dst := some 16, op := Op.indexAddr 24 (Operand.tmp 14) (Operand.tmp 15), type := 0, pos := "ref.go:34", after := #[{ on := 1, ground := Ground.data }, { on := 2, ground := Ground.data }], guard := none }) (v := ?vq3b) rfl (by as_aux_lemma => kernel_rfl) (by as_aux_lemma => kernel_rfl) (by as_aux_lemma => kernel_rfl) (fun _ _ _ h => h) (Or.inl ⟨by rfl, ?yq3b⟩) (by assumption) ?rq3b
        case yq3b => (intro wS hSw; (try dsimp only at hSw); have kq := (hSw ⟨w.heap.size, 1, none⟩).trans k1; go_simp <;> with_reducible rfl)
        simp only [Act.put, List.setIfInBounds_toArray, List.set_cons_zero, List.set_cons_succ]
        refine wpAnyH_take (i := 4) (oi := { dst := some 17, op := Op.fieldAddr 72 (Operand.tmp 16) 0, type := 0, pos := "ref.go:34", after := #[{ on := 3, ground := Ground.data }], guard := none }) (v := ?vq4b) rfl (by as_aux_lemma => kernel_rfl) (by as_aux_lemma => kernel_rfl) (by as_aux_lemma => kernel_rfl) (fun _ _ _ h => h) (Or.inl ⟨by rfl, ?yq4b⟩) (by assumption) ?rq4b
        case yq4b => (intro wS hSw; (try dsimp only at hSw); have kq := (hSw ⟨w.heap.size, 1, none⟩).trans k1; go_simp <;> with_reducible rfl)
        simp only [Act.put, List.setIfInBounds_toArray, List.set_cons_zero, List.set_cons_succ]
        refine wpAnyH_take (i := 5) (oi := { dst := some 18, op := Op.load 29 (Operand.tmp 17), type := 29, pos := "ref.go:34", after := #[{ on := 4, ground := Ground.data }], guard := none }) (v := .agg (adC c.1)) rfl (by as_aux_lemma => kernel_rfl) (by as_aux_lemma => kernel_rfl) (by as_aux_lemma => kernel_rfl) (fun _ _ _ h => h) (yieldsIf_load_A (by rfl) 29 (.tmp 17) rfl (b) (o + k * 21) rfl (adC c.1) _ (fun w hw => by rw [adC_list]; exact range_same (cl_addr HS.out.2.2.2.1) hw) und_addr rfl (by rw [info_addr, adC_size HS.out.2.2.2.2.2.1])) (by assumption) ?_
        simp only [Act.put, List.setIfInBounds_toArray, List.set_cons_zero, List.set_cons_succ]
        refine wpAnyH_take (i := 6) (oi := { dst := some 19, op := Op.load 29 (Operand.tmp 3), type := 29, pos := "ref.go:34", after := #[], guard := none }) (v := .agg (adC a)) rfl (by as_aux_lemma => kernel_rfl) (by as_aux_lemma => kernel_rfl) (by as_aux_lemma => kernel_rfl) (fun _ _ _ h => h) (yieldsIf_load_A (by rfl) 29 (.tmp 3) rfl (w.heap.size + 1) (0) rfl (adC a) _ (fun w hw => range_same HS.out.2.2.2.2.1.range hw) und_addr rfl (by rw [info_addr, adC_size HS.out.2.2.2.2.2.2.1])) (by assumption) ?_
        simp only [Act.put, List.setIfInBounds_toArray, List.set_cons_zero, List.set_cons_succ]
        refine wpAnyH_take (i := 7) (oi := { dst := some 20, op := Op.binOp BinOp.eql 29 (Operand.tmp 18) (Operand.tmp 19) 29, type := 4, pos := "ref.go:34", after := #[{ on := 5, ground := Ground.data }, { on := 6, ground := Ground.data }], guard := none }) (v := ?vq7b) rfl (by as_aux_lemma => kernel_rfl) (by as_aux_lemma => kernel_rfl) (by as_aux_lemma => kernel_rfl) (fun _ _ _ h => h) (Or.inl ⟨by rfl, ?yq7b⟩) (by assumption) ?rq7b
        case yq7b => (intro wS hSw; (try dsimp only at hSw); have kq := (hSw ⟨w.heap.size, 1, none⟩).trans k1; go_simp <;> with_reducible rfl)
        simp only [Act.put, List.setIfInBounds_toArray, List.set_cons_zero, List.set_cons_succ]
        refine wpAnyH_done (by as_aux_lemma => kernel_rfl) ?_ _
        clear hHeld hQ
        go_wp2_with fail
        obtain ⟨s1, s2, s3, _⟩ := HS.out
        rw [if_neg HCA.out] at s1
        exact ⟨⟨k + 1, by omega, congrArg (Value.int .i64) (by omega), s3.trans ⟨rfl, rfl, rfl, Nat.le_refl _, fun _ _ => rfl⟩, s2.trans s1⟩, by simp [intOf]; omega⟩
    · obtain rfl : n = k := by omega
      have kd := cell_of_row _ _ 0 _ _ _ hb1
      have he : clr d a cs = d := by rw [hcl, List.drop_of_length_le (by rw [HN.out]; exact Nat.le_refl _)]; rfl
      have HE := Lib.hid he
      clear he hcl hXw b1 b2 hW hcs ha hb1
      go_wp2_with fail
      go_ret
      rw [HE.out]
      exact ⟨rfl, hWr⟩
end Go.Proofs.YtenepkgjdoddgaaGreatDoor

/- policy: Target. -/
namespace Go.Proofs.YtenepkgjdoddgaaGreatDoor
open Go.RowKit Go.Shelf

def zrC : Array Value := #[.int .u8 0, .int .u8 0, .int .u8 0, .int .u8 0, .int .u8 0, .int .u8 0, .int .u8 0, .int .u8 0, .int .u8 0, .int .u8 0, .int .u8 0, .int .u8 0, .int .u8 0, .int .u8 0, .int .u8 0, .int .u8 0, .int .u8 0, .int .u8 0, .int .u8 0, .int .u8 0, .int .u32 0, .int .u64 0]
theorem zrC_lit : zrC = #[.int .u8 0, .int .u8 0, .int .u8 0, .int .u8 0, .int .u8 0, .int .u8 0, .int .u8 0, .int .u8 0, .int .u8 0, .int .u8 0, .int .u8 0, .int .u8 0, .int .u8 0, .int .u8 0, .int .u8 0, .int .u8 0, .int .u8 0, .int .u8 0, .int .u8 0, .int .u8 0, .int .u32 0, .int .u64 0] := rfl
attribute [irreducible] zrC
theorem rlC_size {r : List Nat × Nat × Nat} (h : Ad r.1) : (rlC r).size = 22 := by have := rlC_len h; rwa [Array.length_toList] at this
theorem rlC_one (r : List Nat × Nat × Nat) : (rlC r).all (·.oneCell') = true := by
  unfold rlC
  refine all_oneCell_toArray fun v hv => ?_
  rcases List.mem_append.1 hv with h | h
  · exact bvs_one r.1 v h
  · simp at h; rcases h with rfl | rfl <;> rfl
/-- To where an address may let go at an entry. -/
def trg (a : List Nat) (e : Nat) : List (List Nat × Nat × Nat) → Option Nat
  | [] => none
  | r :: rs => if r.1 = a ∧ r.2.1 = e then some r.2.2 else trg a e rs
theorem trg_step (a : List Nat) (e : Nat) (rs : List (List Nat × Nat × Nat)) (k : Nat) (r : List Nat × Nat × Nat) (h : rs[k]? = some r) : trg a e (rs.drop k) = if r.1 = a ∧ r.2.1 = e then some r.2.2 else trg a e (rs.drop (k + 1)) := by
  rw [List.drop_eq_getElem_cons (List.getElem?_eq_some_iff.1 h).1, (List.getElem?_eq_some_iff.1 h).2]
  rfl
theorem trg_of {a : List Nat} {e : Nat} {rs : List (List Nat × Nat × Nat)} {k : Nat} {r : List Nat × Nat × Nat} (h : rs[k]? = some r) (h1 : r.1 = a) (h2 : r.2.1 = e) : trg a e (rs.drop k) = some r.2.2 := by rw [trg_step a e rs k r h, if_pos ⟨h1, h2⟩]
theorem trg_not {a : List Nat} {e : Nat} {rs : List (List Nat × Nat × Nat)} {k : Nat} {r : List Nat × Nat × Nat} (h : rs[k]? = some r) (h1 : ¬ (r.1 = a ∧ r.2.1 = e)) : trg a e (rs.drop k) = trg a e (rs.drop (k + 1)) := by rw [trg_step a e rs k r h, if_neg h1]

set_option maxRecDepth 100000 in
set_option maxHeartbeats 4000000 in
theorem target_any (d e : Nat) (cv rv : Value) (rs : List (List Nat × Nat × Nat)) (a : List Nat) (w : World) (hcs : RlA w rv rs) (ha : Ad a) :
    Calls Tryz.prog 11 #[.agg #[.int .u64 d, cv, rv], .agg (adC a), .int .u32 e] w fun y w' => y = .returned (.tuple #[.int .u64 ((trg a e rs).getD 0 : Nat), .bool (trg a e rs).isSome]) ∧ Below w.heap.size w w' := by
  obtain ⟨X, hX⟩ : ∃ X, (w.alloc (.cells #[.int .u64 d, cv, rv] 27)).alloc (.cells (adC a) 29) = X := ⟨_, rfl⟩
  have b1 : Blk X w.heap.size 27 #[.int .u64 d, cv, rv] := by rw [← hX]; exact (Blk.new w _ _).alloc _
  have b2 : Blk X (w.heap.size + 1) 29 (adC a) := by rw [← hX]; exact Blk.newS w _ _ _
  have hW : Below w.heap.size w X := by rw [← hX]; exact balloc (balloc (Below.refl _ _) _) _
  have HX := Lib.hid hX
  have k1 := cell_of_row _ _ 2 _ _ _ b1
  obtain ⟨x, cap, rfl, hl, hcells⟩ := hcs.2
  have H0 := Lib.hid (And.intro b1 (And.intro b2 (And.intro hW (And.intro hcs ha))))
  obtain ⟨n, hn⟩ : ∃ n, rs.length = n := ⟨_, rfl⟩
  have HN := Lib.hid hn
  rw [hn] at k1 hl HX ⊢
  clear hX b1 b2 hW hcs ha hcells hn
  go_enter Tryz.func11, Tryz.ntmps11
  go_wp2_with fail
  rw [HX.out]
  clear k1
  go_loopw [13] (fun t wr => ∃ k : Nat, k ≤ n ∧ t = .int .i64 k ∧ Below X.heap.size X wr ∧ trg a e rs = trg a e (rs.drop k)) (fun t _ => n - (intOf t).toNat)
  case atStart => exact ⟨0, Nat.zero_le _, rfl, Below.refl _ _, rfl⟩
  case round =>
    obtain ⟨k, hk, rfl, hXw, hcl⟩ := hrel
    obtain ⟨b1, b2, hW, hcs, ha⟩ := H0.out
    have hWr := hW.trans (hXw.mono hW.size)
    by_cases hlt : k < n
    · obtain ⟨c, hc⟩ : ∃ c, rs[k]? = some c := ⟨_, List.getElem?_eq_getElem (by have := HN.out; omega)⟩
      obtain ⟨hca, hcl1, hcl2⟩ := hcs.1 c (List.mem_of_getElem? hc)
      obtain ⟨_, x', cap', he, _, hcells⟩ := hcs.new hWr
      obtain ⟨b, o, hx', hbl, hrng⟩ := hcells (fun e => by rw [e] at hc; cases hc)
      injection he with e1 e2 e3
      rw [← e1] at hx'
      subst hx'
      have hr := hrng k c hc
      obtain ⟨dd, hd1, hd2⟩ := und_release
      have hzs : zrC.size = 22 := by rw [zrC_lit]; rfl
      have g0 : (k : Int) < (n : Int) := by omega
      have g1 : (0 : Int) ≤ (k : Int) := by omega
      have g2 : IntKind.i64.wrap ((k : Int) + 1) = ((k + 1 : Nat) : Int) := IntWalk.i64_in _ (by omega)
      have hB2 := b2.keep hXw
      have hQ := eq_addr hca ha
      have HS := Lib.hid (And.intro hc (And.intro hcl (And.intro hXw (And.intro hr (And.intro hB2 (And.intro hca (And.intro hd1 (And.intro hd2 (And.intro hzs (And.intro ha hQ))))))))))
      clear hcl hXw hr hrng hcells e1 e2 e3 hc b1 b2 hW hcs hB2 hQ hzs hd1 hd2 hca ha
      go_upto_region 3 with fail
      refine wp_region_lit ?_
      refine wpList_plain rfl fun K hK => ?_
      go_simp
      refine hK _ _ ?_
      clear hK K
      refine wpList_load_midA rfl 74 (.tmp 15) rfl b (o + k * 22) rfl (rlC c) dd HS.out.2.2.2.1 HS.out.2.2.2.2.2.2.1 HS.out.2.2.2.2.2.2.2.1 (by rw [info_release, rlC_size HS.out.2.2.2.2.2.1]) ?_
      refine wpList_plain rfl fun K hK => ?_
      go_simp
      refine hK _ _ ?_
      clear hK K
      rw [← zrC_lit]
      refine wpList_store_row rfl 74 (.tmp 9) (.tmp 16) rfl wr.heap.size (rlC c) rfl rfl 74 zrC (Blk.new wr _ _) (by rw [info_release, rlC_size HS.out.2.2.2.2.2.1]) (by rw [rlC_size HS.out.2.2.2.2.2.1, HS.out.2.2.2.2.2.2.2.2.1]) (rlC_one c) (wpList_nil ?_)
      rw [World.setRow_alloc_new]
      obtain ⟨w2, hw2⟩ : ∃ w2, wr.alloc (.cells (rlC c) 74) = w2 := ⟨_, rfl⟩
      have hN : Blk w2 wr.heap.size 74 (rlC c) := by rw [← hw2]; exact Blk.new wr _ _
      have hb : Below wr.heap.size wr w2 := by rw [← hw2]; exact balloc (Below.refl _ wr) _
      have ke := rl_entry HS.out.2.2.2.2.2.1 hN.range
      have kl := rl_target HS.out.2.2.2.2.2.1 hN.range
      rw [Nat.zero_add] at ke kl
      rw [hw2]
      have H2 := Lib.hid (And.intro (rl_addr hN.range) (And.intro hb (HS.out.2.2.2.2.1.keep hb)))
      clear hw2 hN hb
      go_upto_region 4 with fail
      refine wp_region_lit ?_
      refine wpList_plain rfl fun K hK => ?_
      go_simp
      refine hK _ _ ?_
      clear hK K
      refine wpList_load_midA rfl 29 (.tmp 17) rfl wr.heap.size 0 rfl (adC c.1) _ (by rw [adC_list]; exact H2.out.1) und_addr rfl (by rw [info_addr, adC_size HS.out.2.2.2.2.2.1]) ?_
      refine wpList_load_midA rfl 29 (.tmp 4) rfl (w.heap.size + 1) 0 rfl (adC a) _ H2.out.2.2.range und_addr rfl (by rw [info_addr, adC_size HS.out.2.2.2.2.2.2.2.2.2.1]) ?_
      refine wpList_plain rfl fun K hK => ?_
      have hQ := HS.out.2.2.2.2.2.2.2.2.2.2
      by_cases hca : c.1 = a
      · rw [decide_eq_true hca] at hQ
        have HCA := Lib.hid hca
        clear hca
        go_simp
        refine hK _ _ ?_
        clear hK K hQ
        by_cases hce : c.2.1 = e
        · have q1 : ((c.2.1 : Int) == (e : Int)) = true := by rw [hce]; simp
          have q2 : (c.2.1 : Int) = (e : Int) := by omega
          have ht := trg_of HS.out.1 HCA.out hce
          have HT := Lib.hid (HS.out.2.1.trans ht)
          clear hce ht
          go_wp2_with fail
          go_ret2
          rw [HT.out]
          exact ⟨rfl, hWr.trans (H2.out.2.1.mono hWr.size)⟩
        · have q1 : ((c.2.1 : Int) == (e : Int)) = false := by simp; omega
          have q2 : ¬ (c.2.1 : Int) = (e : Int) := by omega
          have ht := trg_not HS.out.1 (fun h => hce h.2 : ¬ (c.1 = a ∧ c.2.1 = e))
          have HT := Lib.hid (HS.out.2.1.trans ht)
          clear hce ht
          go_wp2_with fail
          exact ⟨⟨k + 1, by omega, congrArg (Value.int .i64) (by omega), HS.out.2.2.1.trans (H2.out.2.1.mono HS.out.2.2.1.size), HT.out⟩, by simp [intOf]; omega⟩
      · rw [decide_eq_false hca] at hQ
        have ht := trg_not HS.out.1 (fun h => hca h.1 : ¬ (c.1 = a ∧ c.2.1 = e))
        have HT := Lib.hid (HS.out.2.1.trans ht)
        clear hca ht
        go_simp
        refine hK _ _ ?_
        clear hK K hQ
        go_wp2_with fail
        exact ⟨⟨k + 1, by omega, congrArg (Value.int .i64) (by omega), HS.out.2.2.1.trans (H2.out.2.1.mono HS.out.2.2.1.size), HT.out⟩, by simp [intOf]; omega⟩
    · obtain rfl : n = k := by omega
      have he : trg a e rs = none := by rw [hcl, List.drop_of_length_le (by rw [HN.out]; exact Nat.le_refl _)]; rfl
      have HE := Lib.hid he
      clear he hcl hXw b1 b2 hW hcs ha
      go_wp2_with fail
      go_ret2
      rw [HE.out]
      exact ⟨rfl, hWr⟩
end Go.Proofs.YtenepkgjdoddgaaGreatDoor

