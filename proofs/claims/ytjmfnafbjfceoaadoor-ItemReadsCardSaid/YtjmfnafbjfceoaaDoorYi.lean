/- item: trees in blocks of any set; the iterator over pieces. -/
import Derived.Test.YtjmfnafbjfceoaaDoorYg
namespace Go.Proofs.YtjmfnafbjfceoaaDoor
open Go.RowKit Go.Shelf
attribute [local irreducible] lb wdG byA byC heL nuL
/-- A slice that reads as these bytes; where it holds none, nothing is said of its place. -/
def BtP (M : Nat → Prop) (X : World) (v : Value) (l : List Nat) : Prop := (∀ x ∈ l, x < 256) ∧ ∃ x cap, v = .slice x l.length cap ∧ l.length ≤ cap ∧ l.length ≤ 9223372036854775807 ∧ (l ≠ [] → ∃ b o, x = some ⟨b, o, none⟩ ∧ M b ∧ b < X.heap.size ∧ ∀ k u, l[k]? = some u → X.cell? ⟨b, o + k, none⟩ = some (.int .u8 (u : Nat)))
theorem BtP.kept {M : Nat → Prop} {X Y : World} {v : Value} {l : List Nat} (h : BtP M X v l) (hs : X.heap.size ≤ Y.heap.size) (hk : ∀ b, M b → b < X.heap.size → Y.heap[b]? = X.heap[b]?) : BtP M Y v l := by
  obtain ⟨h1, x, cap, h2, h3, h4, h5⟩ := h
  refine ⟨h1, x, cap, h2, h3, h4, fun hl => ?_⟩
  obtain ⟨b, o, e, hb, hbx, hc⟩ := h5 hl
  refine ⟨b, o, e, hb, Nat.lt_of_lt_of_le hbx hs, fun k u hu => ?_⟩
  have hh := hk b hb hbx
  rw [← hc k u hu]; simp only [World.cell?, hh]
/-- A slice of items as an argument lays it. -/
def ItsP (M : Nat → Prop) (X : World) (iv : Value) (vs : List Value) : Prop := ∃ x cap, iv = .slice x vs.length cap ∧ vs.length ≤ 9223372036854775807 ∧ (vs ≠ [] → ∃ b o, x = some ⟨b, o, none⟩ ∧ M b ∧ b < X.heap.size ∧
  ∀ i v, vs[i]? = some v → ∃ c1 x1 n1 d1 y1 m1 e1, v = .agg #[.bool c1, .slice x1 n1 d1, .slice y1 m1 e1] ∧ X.cell? ⟨b, o + i * 3, none⟩ = some (.bool c1) ∧ X.cell? ⟨b, o + i * 3 + 1, none⟩ = some (.slice x1 n1 d1) ∧ X.cell? ⟨b, o + i * 3 + 2, none⟩ = some (.slice y1 m1 e1))
theorem ItsP.kept {M : Nat → Prop} {X Y : World} {iv : Value} {vs : List Value} (h : ItsP M X iv vs) (hs : X.heap.size ≤ Y.heap.size) (hk : ∀ b, M b → b < X.heap.size → Y.heap[b]? = X.heap[b]?) : ItsP M Y iv vs := by
  obtain ⟨x, cap, h2, h3, h5⟩ := h
  refine ⟨x, cap, h2, h3, fun hv => ?_⟩
  obtain ⟨b, o, e, hb, hbx, hc⟩ := h5 hv
  refine ⟨b, o, e, hb, Nat.lt_of_lt_of_le hbx hs, fun i v hi => ?_⟩
  obtain ⟨c1, x1, n1, d1, y1, m1, e1, e, k0, k1, k2⟩ := hc i v hi
  have hh := hk b hb hbx
  exact ⟨c1, x1, n1, d1, y1, m1, e1, e, by rw [← k0]; simp only [World.cell?, hh], by rw [← k1]; simp only [World.cell?, hh], by rw [← k2]; simp only [World.cell?, hh]⟩
/-- An item as an argument lays it, in blocks below B. -/
inductive ItP (M : Nat → Prop) (X : World) : It → Value → Prop
  | mk (b : Bool) (l : List Nat) (ts : List It) (v1 iv : Value) (vs : List Value) (h1 : BtP M X v1 l) (h2 : ItsP M X iv vs) (hl : vs.length = ts.length) (hs : ∀ (i : Nat) t v, ts[i]? = some t → vs[i]? = some v → ItP M X t v) (h0 : ∀ n c, v1 = .slice none n c → c = 0) : ItP M X (It.mk b l ts) (.agg #[.bool b, v1, iv])
theorem ItP.kept {M : Nat → Prop} {X Y : World} {t : It} {v : Value} (h : ItP M X t v) (hs : X.heap.size ≤ Y.heap.size) (hk : ∀ b, M b → b < X.heap.size → Y.heap[b]? = X.heap[b]?) : ItP M Y t v := by
  induction h with
  | mk b l ts v1 iv vs h1 h2 hl _ h0 ih => exact ItP.mk b l ts v1 iv vs (h1.kept hs hk) (h2.kept hs hk) hl ih h0

theorem BtP.mono {M N : Nat → Prop} {X : World} {v : Value} {l : List Nat} (h : BtP M X v l) (hM : ∀ b, M b → b < X.heap.size → N b) : BtP N X v l := by
  obtain ⟨h1, x, cap, h2, h3, h4, h5⟩ := h
  exact ⟨h1, x, cap, h2, h3, h4, fun hl => by obtain ⟨b, o, e, hb, hbx, hc⟩ := h5 hl; exact ⟨b, o, e, hM b hb hbx, hbx, hc⟩⟩
theorem ItsP.mono {M N : Nat → Prop} {X : World} {v : Value} {l : List Value} (h : ItsP M X v l) (hM : ∀ b, M b → b < X.heap.size → N b) : ItsP N X v l := by
  obtain ⟨x, cap, h2, h3, h5⟩ := h
  exact ⟨x, cap, h2, h3, fun hl => by obtain ⟨b, o, e, hb, hbx, hc⟩ := h5 hl; exact ⟨b, o, e, hM b hb hbx, hbx, hc⟩⟩
theorem ItP.mono {M N : Nat → Prop} {X : World} {t : It} {v : Value} (h : ItP M X t v) (hM : ∀ b, M b → b < X.heap.size → N b) : ItP N X t v := by
  induction h with
  | mk b l ts v1 iv vs h1 h2 hl _ h0 ih => exact ItP.mk b l ts v1 iv vs (h1.mono hM) (h2.mono hM) hl ih h0
theorem ItP.ito {M : Nat → Prop} {X : World} {t : It} {v : Value} (h : ItP M X t v) : ItO X.heap.size X t v := by
  induction h with
  | mk b l ts v1 iv vs h1 h2 hl _ h0 ih =>
    refine ItO.mk b l ts v1 iv vs ?_ ?_ hl ih h0
    · obtain ⟨h1, x, cap, h2, h3, h4, h5⟩ := h1
      exact ⟨h1, x, cap, h2, h3, h4, fun hl => by obtain ⟨b, o, e, hb, hbx, hc⟩ := h5 hl; exact ⟨b, o, e, hbx, hbx, hc⟩⟩
    · obtain ⟨x, cap, h2, h3, h5⟩ := h2
      exact ⟨x, cap, h2, h3, fun hl => by obtain ⟨b, o, e, hb, hbx, hc⟩ := h5 hl; exact ⟨b, o, e, hbx, hbx, hc⟩⟩
theorem ItP.new {M : Nat → Prop} {X Y : World} {t : It} {v : Value} (h : ItP M X t v) (k : Below X.heap.size X Y) : ItP M Y t v := h.kept k.size fun b _ hx => k.block b hx
theorem ItP.grown {M : Nat → Prop} {X Y : World} {t : It} {v : Value} {row : Option Nat} (h : ItP M X t v) (hg : X.grownBy Y row) (hne : ∀ r, row = some r → ¬ M r) : ItP M Y t v := h.kept hg.size fun b hb hx => hg.block b hx (fun e => hne b e.symm hb)
theorem ItP.is {M : Nat → Prop} {X : World} {t : It} {v : Value} (h : ItP M X t v) : ∃ b x m c y n d, v = itW b x m c y n d := by
  cases h with
  | mk b l ts v1 iv vs h1 h2 hl hs _ =>
    obtain ⟨_, x, c, rfl, _⟩ := h1
    obtain ⟨y, d, rfl, _⟩ := h2
    exact ⟨b, x, _, c, y, _, d, rfl⟩
/-- An own row is in blocks from its base on. -/
theorem Ow.btp {X : World} {base : Nat} {v : Value} {l : List Nat} (h : Ow X base v l) (hn : l.length ≤ 9223372036854775807) : BtP (fun b => base ≤ b) X v l := by
  obtain ⟨hs, hb⟩ := id h
  obtain ⟨_, x, cap, e, h3, _, h5⟩ := h.bt
  refine ⟨hs, x, cap, e, h3, hn, fun hl => ?_⟩
  rcases h5 with ⟨_, h, _⟩ | ⟨b, o, e2, hlt, hc⟩
  · exact (hl h).elim
  · refine ⟨b, o, e2, ?_, (hlt hl).2, hc⟩
    exact (hb.lt b (by rw [e, e2]; rfl)).1
theorem ItP.bytes {X : World} {base : Nat} {v : Value} {l : List Nat} (h : Ow X base v l) (hn : l.length ≤ 9223372036854775807) : ItP (fun b => base ≤ b) X (.mk false l []) (itB v) := by
  obtain ⟨x, c, e⟩ := h.is
  refine ItP.mk false l [] v (.slice none 0 0) [] (h.btp hn) ⟨none, 0, rfl, by simp, fun h => (h rfl).elim⟩ rfl (fun i t v h => by simp at h) (fun n c e => h.bt.n0 n c e)
theorem Bt.back {B n : Nat} {X Y : World} {v : Value} {l : List Nat} (h : Bt B Y v l) (hn : B ≤ n) (hX : n ≤ X.heap.size) (k : Below n X Y) : Bt B X v l := by
  obtain ⟨h1, x, cap, h2, h3, h4, h5⟩ := h
  refine ⟨h1, x, cap, h2, h3, h4, ?_⟩
  rcases h5 with h5 | ⟨b, o, e, hb, hc⟩
  · exact .inl h5
  · refine .inr ⟨b, o, e, fun hl => ⟨(hb hl).1, by have := (hb hl).1; omega⟩, fun k2 u hu => ?_⟩
    have hl : l ≠ [] := fun e => by rw [e] at hu; simp at hu
    exact (k.cell (p := ⟨b, o + k2, none⟩) (by have := (hb hl).1; show b < n; omega)).symm.trans (hc k2 u hu)

/-- The piece that comes next. -/
def PcG (B N : Nat) (kd : Nat → Nat) (bd : Nat → List Nat) (w : World) (pre : List Value) (x : Value) : Prop :=
  pre.length < N ∧ ∃ y c, x = .agg #[.int .i64 (kd pre.length : Nat), .slice y (bd pre.length).length c] ∧ Bt B w (.slice y (bd pre.length).length c) (bd pre.length)

set_option maxRecDepth 100000 in
set_option maxHeartbeats 4000000 in
theorem pieces1_in (n : Nat) (hn : 1 ≤ n) (l R2 n₀ B M N : Nat) (d : Int) (kd : Nat → Nat) (bd rs : Nat → List Nat) (v0 : Value) (J Jx : List Value → World → Prop) (w0 w : World) (hw0 : Below n₀ w0 w) (hn0 : n₀ ≤ w0.heap.size) (hn₀ : n₀ ≤ R2) (hB : B ≤ n₀) (hgR : 0 < n₀)
    (hR : RB w R2 v0 d M) (hv : Bt B w v0 (rs 0)) (hH : HD w0) (hP : ∀ i, i < N → cutS (rs i) = some (kd i, bd i, rs (i + 1))) (hE : rs N = []) (hJ : StayM (fun k => k = R2) J)
    (hY : ∀ pre (x : Value) X, PcG B N kd bd w0 pre x → J pre X → YieldAt Fence.wide 0 Tryd.prog l #[x] X fun e Y => (e = .returned (.bool true) ∧ J (pre ++ [x]) Y ∧ KeptM (fun k => k = R2) X Y ∧ Below n₀ X Y) ∨ (e = .returned (.bool false) ∧ Jx (pre ++ [x]) Y ∧ KeptM (fun k => k = R2) X Y))
    (h0 : J [] w) :
    CallsIn Fence.wide n Tryd.prog 84 #[.func (.yield l) #[] #[], .pointer (some ⟨R2, 0, none⟩)] w fun e Y => (∃ v, e = .returned v) ∧
      ((∃ xs, xs.length = N ∧ J xs Y) ∨ (∃ pre, True ∧ Jx pre Y)) := by
  refine callsIn_of_wp Tryd.func84 rfl trivial ?_ rfl
  simp only [Tryd.ntmps84, List.size_toArray, List.length_cons, List.length_nil, Nat.reduceAdd, Nat.reduceSub, Array.replicate_succ, Array.replicate_zero, List.push_toArray, List.append_toArray, List.nil_append, List.cons_append]
  have HY := Lib.hid hY
  have HP := Lib.hid hP
  clear hY hP
  gi_wp2_with fail
  gi_loopg [] N (fun c wr => ∃ k v2 pre, c + k = N ∧ pre.length = k ∧ J pre wr ∧ RB wr R2 v2 d M ∧ Bt B wr v2 (rs k) ∧ Below n₀ w0 wr)
  case atStart => exact ⟨0, v0, [], by simp, rfl, h0, hR, hv, hw0⟩
  case round =>
    clear h0 hR hv hw0
    obtain ⟨k, v2, pre, hk, hpl, hj, hR, hv, hw⟩ := hrel
    have hH2 : HD wr := fun j hj => (hw.cell (p := ⟨0, j, none⟩) hgR).trans (hH j hj)
    obtain ⟨x2, c2, rfl⟩ : ∃ x2 c2, v2 = .slice x2 (rs k).length c2 := by obtain ⟨_, x, c, e, _⟩ := hv; exact ⟨x, c, e⟩
    have k0 : wr.cell? ⟨R2, 0, none⟩ = some (.slice x2 (rs k).length c2) := cell_of_row wr _ 0 _ _ _ hR
    by_cases hlt : k < N
    · have hcs := HP.out k hlt
      have hne : rs k ≠ [] := fun e => by rw [e] at hcs; cases hcs
      have hpos : 0 < (rs k).length := List.length_pos_iff.2 hne
      have hcut := cut_any B R2 _ (rs k) d M wr hR hv (Nat.le_trans hB hn₀) hH2 (Nat.lt_of_lt_of_le hgR hn₀)
      rw [hcs] at hcut
      have HC := Lib.hid hcut
      clear hcut
      have HK := Lib.hid (And.intro hk (And.intro hpl (And.intro hj (And.intro hw hcs))))
      obtain ⟨q, hq⟩ : ∃ q, (rs k).length = q := ⟨_, rfl⟩
      rw [hq] at k0 hpos
      have hqi : (0 : Int) < (q : Int) := by omega
      clear hk hpl hj hR hv hw hcs hne hq hH2
      gi_wp2_with fail
      refine ⟨trivial, (callsIn_wide.2 HC.out).mono ?_⟩
      rintro e w1 ⟨hg, y, m, c, rfl, hb, v3, hR3, hv3⟩
      rename_i K hK
      refine hK _ _ ?_
      clear hK K HC k0
      obtain ⟨hk, hpl, hj, hw, _⟩ := HK.out
      have hm : m = (bd k).length := by obtain ⟨_, x', c', e, _⟩ := hb; injection e
      subst hm
      have hw1 : Below n₀ w0 w1 := hw.grown hg (Nat.le_trans hn0 hw.size) (fun r e => by cases e; exact hn₀)
      have hyy := HY.out pre (.agg #[.int .i64 (kd k : Nat), .slice y (bd k).length c]) w1 ⟨by omega, y, c, by rw [hpl], by rw [hpl]; exact hb.back hB hn0 hw1⟩ (hJ _ _ _ _ hj hg (fun r e => by cases e; rfl))
      obtain ⟨fn, tmps, assign, body, hy, hRy⟩ := YieldAt.wide (m' := n - 1) hyy
      have HF := Lib.hid (And.intro hR3 (And.intro hv3 hw1))
      clear hyy hb hR3 hv3 hw1 hg hj hw HK
      gi_wp2_with fail
      refine hRy.mono ?_
      clear hRy hy
      rintro e Y (⟨rfl, hj, hkp, hbl⟩ | ⟨rfl, hjx, _⟩)
      · obtain ⟨hR3, hv3, hw1⟩ := HF.out
        have hR4 : RB Y R2 v3 d M := (hkp.2 R2 rfl hR3.lt).trans hR3
        have hv4 : Bt B Y v3 (rs (k + 1)) := hv3.below hB hbl
        have HE := Lib.hid (And.intro hj (And.intro hR4 (And.intro hv4 (hw1.trans hbl))))
        clear hj hkp hbl hR3 hv3 hw1 hR4 hv4 HF
        gi_wp2_with fail
        gi_roundg (gk - 1)
        case measure => omega
        case rel => exact ⟨k + 1, v3, _, by omega, by simp [hpl], HE.out⟩
      · have HE := Lib.hid hjx
        clear hjx HF
        gi_wp2_with fail
        go_end0
        exact ⟨⟨_, rfl⟩, .inr ⟨_, trivial, HE.out⟩⟩
    · obtain rfl : k = N := by omega
      rw [hE] at k0
      have HK := Lib.hid hj
      clear hj hv hw hR
      have k1 : wr.cell? ⟨R2, 0, none⟩ = some (.slice x2 0 c2) := k0
      clear k0
      gi_wp2_with fail
      refine ⟨trivial, ?_⟩
      rename_i K hK
      refine hK _ _ ?_
      clear hK K
      gi_wp2_with fail
      refine ⟨fun _ h => (nomatch h), ?_⟩
      rename_i K hK _ _ _ _
      refine hK _ _ ?_
      clear hK K
      gi_wp2_with fail
      go_end0
      exact ⟨⟨_, rfl⟩, .inl ⟨_, hpl, HK.out⟩⟩
/-- The iterator over an item's pieces. -/
theorem pieces_seq (n R2 n₀ B M N : Nat) (d : Int) (kd : Nat → Nat) (bd rs : Nat → List Nat) (v0 : Value) (hn : 1 ≤ n) (w : World) (hn0 : n₀ ≤ w.heap.size) (hn₀ : n₀ ≤ R2) (hB : B ≤ n₀) (hgR : 0 < n₀)
    (hR : RB w R2 v0 d M) (hv : Bt B w v0 (rs 0)) (hH : HD w) (hP : ∀ i, i < N → cutS (rs i) = some (kd i, bd i, rs (i + 1))) (hE : rs N = []) :
    SeqM n Tryd.prog 84 #[.pointer (some ⟨R2, 0, none⟩)] (fun x : Value => #[x]) n₀ (fun k => k = R2) (PcG B N kd bd w) (fun xs => xs.length = N) (fun _ => True) w := fun l J Jx W hW hJ _ hY h0 =>
  pieces1_in n hn l R2 n₀ B M N d kd bd rs v0 J Jx w W (hW.mono hn0) hn0 hn₀ hB hgR (hR.keep hW) (hv.new hW) hH hP hE hJ hY h0
set_option maxRecDepth 100000 in
set_option maxHeartbeats 2000000 in
theorem pieces_any (v : Value) (d : Int) (M : Nat) (w : World) (hv : ∃ y n e, v = .slice y n e) :
    Calls Tryd.prog 74 #[.agg #[v, .int .i64 d, .map (some M)]] w fun e w' => e = .returned (.func (.func 84) #[] #[.pointer (some ⟨w.heap.size, 0, none⟩)]) ∧ w' = w.alloc (.cells #[v, .int .i64 d, .map (some M)] 68) := by
  have hmf : ∀ (fn : Fn) (first cap : Array Value) (w : World), (Instr.makeFunc fn first cap).run Tryd.prog w = .ok (.func fn first cap) w := fun _ _ _ _ => rfl
  obtain ⟨y, n, e, rfl⟩ := hv
  go_enter Tryd.func74, Tryd.ntmps74
  go_wp2_with fail
  go_ret
  exact ⟨rfl, rfl⟩
end Go.Proofs.YtjmfnafbjfceoaaDoor
