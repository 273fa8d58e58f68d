/- Texts laid into one: Po. -/
import Derived.Test.YtenepkgjdoddgaaGreatDoorNo
import Derived.Test.YtenepkgjdoddgaaGreatDoorAc
import Derived.Test.YtenepkgjdoddgaaGreatDoorPc
import Derived.Test.YtenepkgjdoddgaaGreatDoorPl
import Derived.Test.YtenepkgjdoddgaaGreatDoorPe
import Derived.Test.YtenepkgjdoddgaaGreatDoorRl
import Derived.Test.YtenepkgjdoddgaaGreatDoorNi
/- policy's laws: an own row of texts. -/
namespace Go.Proofs.YtenepkgjdoddgaaGreatDoor
open Go.RowKit Go.Shelf

/-- A slice of texts in a row of the call's own. -/
def strV (x : List UInt8) : Value := .string ⟨x.toArray⟩
def OwS (X : World) (base : Nat) (v : Value) (l : List (List UInt8)) : Prop := X.ownsRow base 9 1 v l.length (l.map strV)
theorem OwS.keep {X Y : World} {base : Nat} {v : Value} {l : List (List UInt8)} (h : OwS X base v l) (k : Below X.heap.size X Y) : OwS Y base v l := World.ownsRow.kept h (grown_new k) (by cases v.ownBlock <;> simp)
theorem OwS.new1 (w : World) (base : Nat) (x : List UInt8) (hb : base ≤ w.heap.size) : OwS (w.alloc (.cells #[strV x] 9)) base (.slice (some ⟨w.heap.size, 0, none⟩) 1 1) [x] :=
  ⟨rfl, .inr ⟨w.heap.size, 1, #[strV x], rfl, hb, Blk.new w _ _, Nat.le_refl _, by unfold maxLen; omega, rfl, rfl⟩⟩
/-- Its texts as they lie. -/
theorem OwS.at {X : World} {base : Nat} {v : Value} {l : List (List UInt8)} (h : OwS X base v l) : ∃ x cap, v = .slice x l.length cap ∧ l.length ≤ 9223372036854775807 ∧ (l ≠ [] → ∃ g, x = some ⟨g, 0, none⟩ ∧ base ≤ g ∧ g < X.heap.size ∧ ∀ k y, l[k]? = some y → X.cell? ⟨g, k, none⟩ = some (strV y)) := by
  rcases h.2 with ⟨rfl, hn⟩ | ⟨g, cap, cur, rfl, hb, hg, hnc, hcm, hcs, htk⟩
  · exact ⟨none, 0, by rw [hn], by rw [hn]; decide, fun hne => (hne (List.length_eq_zero_iff.1 hn)).elim⟩
  · refine ⟨_, cap, rfl, by unfold maxLen at hcm; omega, fun _ => ⟨g, rfl, hb, (Array.getElem?_eq_some_iff.1 hg).1, fun k y hk => ?_⟩⟩
    have hl := (List.getElem?_eq_some_iff.1 hk).1
    rw [cell_of_row X g k _ _ _ hg, ← Array.getElem?_toList]
    have e : (l.map strV)[k]? = some (strV y) := by rw [List.getElem?_map, hk]; rfl
    rw [← htk, List.getElem?_take_of_lt (by omega)] at e
    exact e
theorem infoStr : (Tryz.prog.info? 9).map (fun i => (i.zero, i.size, i.bytes)) = some (some (.string ⟨#[]⟩), 1, 16) := by kernel_rfl
/-- A text appended. -/
theorem app_str (n₀ : Nat) (x : List UInt8) (v : Value) (l : List (List UInt8)) (w : World) (hS : OwS w n₀ v l) (hn : n₀ ≤ w.heap.size ∧ l.length ≤ 100000) :
    ∃ (gn cn : Nat) (w5 : World), (Builtin.append_ #[45, 45] 45 #[v, .slice (some ⟨w.heap.size, 0, none⟩) 1 1]).run Tryz.prog (w.alloc (.cells #[strV x] 9)) = .ok (.slice (some ⟨gn, 0, none⟩) (l.length + 1) cn) w5 ∧
      OwS w5 n₀ (.slice (some ⟨gn, 0, none⟩) (l.length + 1) cn) (l ++ [x]) ∧ Below n₀ w w5 ∧ w.grownBy w5 v.ownBlock := by
  obtain ⟨i0, hi0, hz0, hz1, hz2⟩ := info_parts' infoStr
  have hal : Below w.heap.size w (w.alloc (.cells #[strV x] 9)) := balloc (Below.refl _ _) _
  have hC3 := OwS.keep hS hal
  have hZ := Blk.new w 9 #[strV x]
  have hsz : (w.alloc (.cells #[strV x] 9)).heap.size = w.heap.size + 1 := by simp
  obtain ⟨v', w5, hrun, hown5, hg5, _, hat⟩ := run_append_own_at (P := Tryz.prog) (w := w.alloc (.cells #[strV x] 9)) n₀ 45 45 9 i0 (.string ⟨#[]⟩) 1 16 (by kernel_rfl) hi0 hz0 hz1 hz2 rfl (by decide) v l.length _ hC3 ⟨w.heap.size, 0, none⟩ 1 1 [strV x] rfl (fun j u hj => by
    rw [Go.WideShapes.add_plain, Nat.zero_add, cell_of_row _ w.heap.size j _ _ _ hZ]
    exact (Array.getElem?_toList ..).symm.trans hj) (fun u hu => by simp at hu; subst hu; rfl) (by unfold maxLen; omega) (by omega) (by omega)
  obtain ⟨gn, cn, rfl⟩ := Go.Joins.ownsRow_form hown5 (by omega)
  refine ⟨gn, cn, w5, hrun, ?_, ?_, ?_⟩
  · unfold OwS
    rw [List.length_append, List.map_append]
    exact hown5
  · exact (hal.mono hn.1).grown hg5 (by omega) (fun k e => (World.ownsRow.lt hC3 k e).1)
  · exact ⟨hg5.os.trans hal.os, hg5.tape.trans hal.tape, hg5.output.trans hal.output, Nat.le_trans hal.size hg5.size, fun i hi hr => (hg5.block i (Nat.lt_of_lt_of_le hi hal.size) hr).trans (hal.block i hi)⟩
end Go.Proofs.YtenepkgjdoddgaaGreatDoor

/- policy's laws: the reference's Lines. -/
namespace Go.Proofs.YtenepkgjdoddgaaGreatDoor
open Go.RowKit Go.Shelf

theorem cat_ba (x y : List UInt8) : (⟨x.toArray⟩ : ByteArray) ++ ⟨y.toArray⟩ = ⟨(x ++ y).toArray⟩ := by
  apply ByteArray.ext
  simp
theorem siz_ba (l : List UInt8) : (ByteArray.mk l.toArray).size = l.length := by simp [ByteArray.size]

theorem ClA.row {X : World} {b o n cap k : Nat} {cs : List (List Nat × Nat)} {c : List Nat × Nat} (h : ClA X (.slice (some ⟨b, o, none⟩) n cap) cs) (hc : cs[k]? = some c) : X.rangeAt b (o + k * 21) (clC c).toList := by
  obtain ⟨_, x, cap', he, _, hr⟩ := h
  obtain ⟨b', o', hx, _, hg⟩ := hr (fun e => by rw [e] at hc; cases hc)
  injection he with e1 _ _
  rw [← e1] at hx
  injection hx with hx
  injection hx with h1 h2
  subst h1 h2
  exact hg k c hc
theorem RlA.row {X : World} {b o n cap k : Nat} {rs : List (List Nat × Nat × Nat)} {c : List Nat × Nat × Nat} (h : RlA X (.slice (some ⟨b, o, none⟩) n cap) rs) (hc : rs[k]? = some c) : X.rangeAt b (o + k * 22) (rlC c).toList := by
  obtain ⟨_, x, cap', he, _, hr⟩ := h
  obtain ⟨b', o', hx, _, hg⟩ := hr (fun e => by rw [e] at hc; cases hc)
  injection he with e1 _ _
  rw [← e1] at hx
  injection hx with hx
  injection hx with h1 h2
  subst h1 h2
  exact hg k c hc
theorem ClA.first {X : World} {x : Option Addr} {n cap : Nat} {cs : List (List Nat × Nat)} {k : Nat} {c : List Nat × Nat} (h : ClA X (.slice x n cap) cs) (hc : cs[k]? = some c) : ∃ b o, x = some ⟨b, o, none⟩ := by
  obtain ⟨_, x, cap', he, _, hr⟩ := h
  obtain ⟨b', o', hx, _, _⟩ := hr (fun e => by rw [e] at hc; cases hc)
  injection he with e1 _ _
  exact ⟨b', o', e1.trans hx⟩
theorem RlA.first {X : World} {x : Option Addr} {n cap : Nat} {rs : List (List Nat × Nat × Nat)} {k : Nat} {c : List Nat × Nat × Nat} (h : RlA X (.slice x n cap) rs) (hc : rs[k]? = some c) : ∃ b o, x = some ⟨b, o, none⟩ := by
  obtain ⟨_, x, cap', he, _, hr⟩ := h
  obtain ⟨b', o', hx, _, _⟩ := hr (fun e => by rw [e] at hc; cases hc)
  injection he with e1 _ _
  exact ⟨b', o', e1.trans hx⟩

set_option maxRecDepth 100000 in
set_option maxHeartbeats 8000000 in
theorem rlines_any (d : Nat) (cv rv : Value) (cs : List (List Nat × Nat)) (rs : List (List Nat × Nat × Nat)) (w : World) (hd : d < 18446744073709551616) (hcs : ClA w cv cs) (hrs : RlA w rv rs) (hlen : cs.length ≤ 64 ∧ rs.length ≤ 64) :
    Calls Tryz.prog 20 #[.agg #[.int .u64 d, cv, rv]] w fun e w' => ∃ v, e = .returned v ∧ OwS w' w.heap.size v (lnsP d cs rs) ∧ Below w.heap.size w w' := by
  obtain ⟨X, hX⟩ : ∃ X, w.alloc (.cells #[.int .u64 d, cv, rv] 27) = X := ⟨_, rfl⟩
  have b1 : Blk X w.heap.size 27 #[.int .u64 d, cv, rv] := by rw [← hX]; exact Blk.new w _ _
  have hW : Below w.heap.size w X := by rw [← hX]; exact balloc (Below.refl _ _) _
  have HX := Lib.hid hX
  have HCS := Lib.hid (fun (Y : World) (hY : Below X.heap.size X Y) => hcs.new (hW.trans (hY.mono hW.size)))
  have HRS := Lib.hid (fun (Y : World) (hY : Below X.heap.size X Y) => hrs.new (hW.trans (hY.mono hW.size)))
  obtain ⟨_, x1, c1, rfl, hl1, _⟩ := hcs
  obtain ⟨_, x2, c2, rfl, hl2, _⟩ := hrs
  have HP := Lib.hid (fun (Y : World) (hY : Below X.heap.size X Y) => (by
    have q := b1.keep hY
    exact ⟨cell_of_row _ _ 0 _ _ _ q, cell_of_row _ _ 1 _ _ _ q, cell_of_row _ _ 2 _ _ _ q⟩ : Y.cell? ⟨w.heap.size, 0, none⟩ = some (.int .u64 d) ∧ Y.cell? ⟨w.heap.size, 1, none⟩ = some (.slice x1 cs.length c1) ∧ Y.cell? ⟨w.heap.size, 2, none⟩ = some (.slice x2 rs.length c2)))
  have hwX : w.heap.size ≤ X.heap.size := hW.size
  have H0 := Lib.hid (And.intro hW (And.intro hlen hd))
  obtain ⟨n1, hn1⟩ : ∃ n, cs.length = n := ⟨_, rfl⟩
  obtain ⟨n2, hn2⟩ : ∃ n, rs.length = n := ⟨_, rfl⟩
  have HN := Lib.hid (And.intro hn1 hn2)
  obtain ⟨k0, k1, k2⟩ := HP.out X (Below.refl _ _)
  rw [hn1] at HX HP k1 hl1 ⊢
  rw [hn2] at HX HP k2 hl2 ⊢
  clear hX b1 hW hd hlen hn1 hn2 hwX
  obtain ⟨TD, hTD⟩ : ∃ T, (⟨(txL d).toArray⟩ : ByteArray) = T := ⟨_, rfl⟩
  have hTDs : TD.size ≤ 192 := by rw [← hTD, siz_ba]; exact txL_len d
  have eD : (⟨#[100, 101, 102, 97, 117, 108, 116, 32]⟩ : ByteArray) ++ TD = ⟨(lnD d).toArray⟩ := by rw [← hTD]; exact cat_ba [100, 101, 102, 97, 117, 108, 116, 32] (txL d)
  have HT := Lib.hid (fun (Y : World) => (hTD ▸ rltext_any d H0.out.2.2 Y : Calls Tryz.prog 53 #[.int .u64 d] Y fun e w' => e = .returned (.string TD) ∧ Below Y.heap.size Y w'))
  clear hTD
  go_enter Tryz.func20, Tryz.ntmps20
  go_wp2_with fail
  rw [HX.out]
  clear HX
  go_upto_region 2 with (first | (go_at_call 53; refine (HT.out _).mono ?_; rintro e w3 ⟨rfl, h3⟩; have H3 := Lib.hid h3; clear h3) | fail)
  clear k0 k1 k2
  obtain ⟨B, hB⟩ : ∃ B, X.heap.size = B := ⟨_, rfl⟩
  have hnew := OwS.new1 w3 B (lnD d) (by rw [← hB]; exact H3.out.size)
  have H4 := Lib.hid (show OwS (w3.alloc (.cells #[strV (lnD d)] 9)) B (.slice (some ⟨w3.heap.size, 0, none⟩) 1 1) (lnD d :: (cs.take 0).map lnC) ∧ Below X.heap.size X (w3.alloc (.cells #[strV (lnD d)] 9)) ∧ X.heap.size = B from ⟨by simpa using hnew, balloc H3.out _, hB⟩)
  clear hnew hB
  try rw [eD]
  clear eD hTDs HT
  --STOP1
  go_wp2_with fail
  go_loopw [3, 4] (fun tv t wr => ∃ k : Nat, k ≤ n1 ∧ t = .int .i64 k ∧ OwS wr B tv (lnD d :: (cs.take k).map lnC) ∧ Below X.heap.size X wr) (fun _ t _ => n1 - (intOf t).toNat)
  case atStart => exact ⟨0, Nat.zero_le _, rfl, H4.out.1, H4.out.2.1⟩
  case round =>
    obtain ⟨k, hk, rfl, hOw, hXw⟩ := hrel
    obtain ⟨k0, k1, k2⟩ := HP.out wr hXw
    by_cases hlt : k < n1
    · obtain ⟨c, hc⟩ : ∃ c, cs[k]? = some c := ⟨_, List.getElem?_eq_getElem (by have := HN.out; omega)⟩
      obtain ⟨b, o, rfl⟩ := (HCS.out wr hXw).first hc
      have hca := (HCS.out wr hXw).1 c (List.mem_of_getElem? hc)
      have HR := Lib.hid (fun (Y : World) (hY : Below X.heap.size X Y) => (HCS.out Y hY).row hc)
      have g0 : (k : Int) < (n1 : Int) := by omega
      have g1 : (0 : Int) ≤ (k : Int) := by omega
      have g2 : IntKind.i64.wrap ((k : Int) + 1) = ((k + 1 : Nat) : Int) := IntWalk.i64_in _ (by omega)
      obtain ⟨NM, hNM⟩ : ∃ T, (⟨(nmL c.1).toArray⟩ : ByteArray) = T := ⟨_, rfl⟩
      obtain ⟨TX, hTX⟩ : ∃ T, (⟨(txL c.2).toArray⟩ : ByteArray) = T := ⟨_, rfl⟩
      obtain ⟨S1, hS1⟩ : ∃ T, (⟨#[99, 108, 101, 97, 114, 32]⟩ : ByteArray) ++ NM = T := ⟨_, rfl⟩
      obtain ⟨S2, hS2⟩ : ∃ T, S1 ++ (⟨#[32]⟩ : ByteArray) = T := ⟨_, rfl⟩
      obtain ⟨S3, hS3⟩ : ∃ T, S2 ++ TX = T := ⟨_, rfl⟩
      have z1 : NM.size = 42 := by rw [← hNM, siz_ba, nmL_len, hca.1.1]
      have z2 : TX.size ≤ 192 := by rw [← hTX, siz_ba]; exact txL_len c.2
      have z3 : S1.size = 48 := by rw [← hS1, ByteArray.size_append, z1]; rfl
      have z4 : S2.size = 49 := by rw [← hS2, ByteArray.size_append, z3]; rfl
      have z5 : ¬ 9223372036854775807 < 49 + TX.size := by omega
      have hS : (⟨(lnC c).toArray⟩ : ByteArray) = S3 := by
        rw [← hS3, ← hS2, ← hS1, ← hNM, ← hTX]
        rw [show (⟨#[99, 108, 101, 97, 114, 32]⟩ : ByteArray) = ⟨([99, 108, 101, 97, 114, 32] : List UInt8).toArray⟩ from rfl, show (⟨#[32]⟩ : ByteArray) = ⟨([32] : List UInt8).toArray⟩ from rfl, cat_ba, cat_ba, cat_ba]
        simp [lnC]
      have HNM := Lib.hid (fun (Y : World) => (hNM ▸ rname_any c.1 hca.1 Y : Calls Tryz.prog 31 #[.agg (adC c.1)] Y fun e w' => e = .returned (.string NM) ∧ Below Y.heap.size Y w'))
      have HTX := Lib.hid (fun (Y : World) => (hTX ▸ rltext_any c.2 hca.2 Y : Calls Tryz.prog 53 #[.int .u64 (c.2 : Nat)] Y fun e w' => e = .returned (.string TX) ∧ Below Y.heap.size Y w'))
      have HS := Lib.hid (And.intro hc (And.intro hca (And.intro hS (And.intro hOw hXw))))
      have hS0 : Below X.heap.size X wr.drew := hXw.trans ⟨rfl, rfl, rfl, Nat.le_refl _, fun _ _ => rfl⟩
      have HX0 := Lib.hid (And.intro HS.out.2.2.2.2 H4.out.2.2)
      have HC := Lib.hid (show Below wr.heap.size wr wr.drew from ⟨rfl, rfl, rfl, Nat.le_refl _, fun _ _ => rfl⟩)
      clear hNM hTX hc hca hS hOw hXw
      go_upto_region 5 with fail
      refine wp_region_held_drew (S := fun w' => Below X.heap.size X w') (by as_aux_lemma => kernel_rfl) hS0 (fun hHeld => ?_)
      simp only [List.size_toArray, List.length_cons, List.length_nil, Nat.reduceAdd, Array.replicate_succ, Array.replicate_zero, List.push_toArray, List.nil_append, List.cons_append]
      refine wpAnyH_take (i := 0) (oi := { dst := some 19, op := Op.move (Operand.tmp 3), type := 45, pos := "ref.go:123", after := #[], guard := none }) (v := ?vq0) rfl (by as_aux_lemma => kernel_rfl) (by as_aux_lemma => kernel_rfl) (by as_aux_lemma => kernel_rfl) (fun _ _ _ h => h) (Or.inl ⟨by rfl, ?yq0⟩) (by assumption) ?rq0
      case yq0 => (intro wS hSw; (try dsimp only at hSw); obtain ⟨kq0, kq1, kq2⟩ := HP.out wS hSw; have kl := cl_label HS.out.2.1.1 (HR.out wS hSw); go_simp <;> with_reducible rfl)
      simp only [Act.put, List.setIfInBounds_toArray, List.set_cons_zero, List.set_cons_succ]
      refine wpAnyH_take (i := 1) (oi := { dst := some 20, op := Op.fieldAddr 27 (Operand.tmp 1) 1, type := 0, pos := "ref.go:123", after := #[], guard := none }) (v := ?vq1) rfl (by as_aux_lemma => kernel_rfl) (by as_aux_lemma => kernel_rfl) (by as_aux_lemma => kernel_rfl) (fun _ _ _ h => h) (Or.inl ⟨by rfl, ?yq1⟩) (by assumption) ?rq1
      case yq1 => (intro wS hSw; (try dsimp only at hSw); obtain ⟨kq0, kq1, kq2⟩ := HP.out wS hSw; have kl := cl_label HS.out.2.1.1 (HR.out wS hSw); go_simp <;> with_reducible rfl)
      simp only [Act.put, List.setIfInBounds_toArray, List.set_cons_zero, List.set_cons_succ]
      refine wpAnyH_take (i := 2) (oi := { dst := some 21, op := Op.load 24 (Operand.tmp 20), type := 24, pos := "ref.go:123", after := #[{ on := 1, ground := Ground.data }], guard := none }) (v := ?vq2) rfl (by as_aux_lemma => kernel_rfl) (by as_aux_lemma => kernel_rfl) (by as_aux_lemma => kernel_rfl) (fun _ _ _ h => h) (Or.inl ⟨by rfl, ?yq2⟩) (by assumption) ?rq2
      case yq2 => (intro wS hSw; (try dsimp only at hSw); obtain ⟨kq0, kq1, kq2⟩ := HP.out wS hSw; have kl := cl_label HS.out.2.1.1 (HR.out wS hSw); go_simp <;> with_reducible rfl)
      simp only [Act.put, List.setIfInBounds_toArray, List.set_cons_zero, List.set_cons_succ]
      refine wpAnyH_take (i := 3) (oi := { dst := some 22, op := Op.move (Operand.tmp 4), type := 3, pos := "ref.go:123", after := #[], guard := none }) (v := ?vq3) rfl (by as_aux_lemma => kernel_rfl) (by as_aux_lemma => kernel_rfl) (by as_aux_lemma => kernel_rfl) (fun _ _ _ h => h) (Or.inl ⟨by rfl, ?yq3⟩) (by assumption) ?rq3
      case yq3 => (intro wS hSw; (try dsimp only at hSw); obtain ⟨kq0, kq1, kq2⟩ := HP.out wS hSw; have kl := cl_label HS.out.2.1.1 (HR.out wS hSw); go_simp <;> with_reducible rfl)
      simp only [Act.put, List.setIfInBounds_toArray, List.set_cons_zero, List.set_cons_succ]
      refine wpAnyH_take (i := 4) (oi := { dst := some 23, op := Op.indexAddr 24 (Operand.tmp 21) (Operand.tmp 22), type := 0, pos := "ref.go:123", after := #[{ on := 2, ground := Ground.data }, { on := 3, ground := Ground.data }], guard := none }) (v := ?vq4) rfl (by as_aux_lemma => kernel_rfl) (by as_aux_lemma => kernel_rfl) (by as_aux_lemma => kernel_rfl) (fun _ _ _ h => h) (Or.inl ⟨by rfl, ?yq4⟩) (by assumption) ?rq4
      case yq4 => (intro wS hSw; (try dsimp only at hSw); obtain ⟨kq0, kq1, kq2⟩ := HP.out wS hSw; have kl := cl_label HS.out.2.1.1 (HR.out wS hSw); go_simp <;> with_reducible rfl)
      simp only [Act.put, List.setIfInBounds_toArray, List.set_cons_zero, List.set_cons_succ]
      refine wpAnyH_take (i := 5) (oi := { dst := some 24, op := Op.fieldAddr 72 (Operand.tmp 23) 0, type := 0, pos := "ref.go:123", after := #[{ on := 4, ground := Ground.data }], guard := none }) (v := ?vq5) rfl (by as_aux_lemma => kernel_rfl) (by as_aux_lemma => kernel_rfl) (by as_aux_lemma => kernel_rfl) (fun _ _ _ h => h) (Or.inl ⟨by rfl, ?yq5⟩) (by assumption) ?rq5
      case yq5 => (intro wS hSw; (try dsimp only at hSw); obtain ⟨kq0, kq1, kq2⟩ := HP.out wS hSw; have kl := cl_label HS.out.2.1.1 (HR.out wS hSw); go_simp <;> with_reducible rfl)
      simp only [Act.put, List.setIfInBounds_toArray, List.set_cons_zero, List.set_cons_succ]
      refine wpAnyH_take (i := 6) (oi := { dst := some 25, op := Op.load 29 (Operand.tmp 24), type := 29, pos := "ref.go:123", after := #[{ on := 5, ground := Ground.data }], guard := none }) (v := .agg (adC c.1)) rfl (by as_aux_lemma => kernel_rfl) (by as_aux_lemma => kernel_rfl) (by as_aux_lemma => kernel_rfl) (fun _ _ _ h => h) (yieldsIf_load_A (by rfl) 29 (.tmp 24) rfl (b) (o + k * 21) rfl (adC c.1) _ (fun wS hw => by rw [adC_list]; exact cl_addr (HR.out wS hw)) und_addr rfl (by rw [info_addr, adC_size HS.out.2.1.1])) (by assumption) ?_
      simp only [Act.put, List.setIfInBounds_toArray, List.set_cons_zero, List.set_cons_succ]
      refine wpAnyH_take (i := 10) (oi := { dst := some 29, op := Op.fieldAddr 27 (Operand.tmp 1) 1, type := 0, pos := "ref.go:123", after := #[], guard := none }) (v := ?vq7) rfl (by as_aux_lemma => kernel_rfl) (by as_aux_lemma => kernel_rfl) (by as_aux_lemma => kernel_rfl) (fun _ _ _ h => h) (Or.inl ⟨by rfl, ?yq7⟩) (by assumption) ?rq7
      case yq7 => (intro wS hSw; (try dsimp only at hSw); obtain ⟨kq0, kq1, kq2⟩ := HP.out wS hSw; have kl := cl_label HS.out.2.1.1 (HR.out wS hSw); go_simp <;> with_reducible rfl)
      simp only [Act.put, List.setIfInBounds_toArray, List.set_cons_zero, List.set_cons_succ]
      refine wpAnyH_take (i := 11) (oi := { dst := some 30, op := Op.load 24 (Operand.tmp 29), type := 24, pos := "ref.go:123", after := #[{ on := 10, ground := Ground.data }], guard := none }) (v := ?vq8) rfl (by as_aux_lemma => kernel_rfl) (by as_aux_lemma => kernel_rfl) (by as_aux_lemma => kernel_rfl) (fun _ _ _ h => h) (Or.inl ⟨by rfl, ?yq8⟩) (by assumption) ?rq8
      case yq8 => (intro wS hSw; (try dsimp only at hSw); obtain ⟨kq0, kq1, kq2⟩ := HP.out wS hSw; have kl := cl_label HS.out.2.1.1 (HR.out wS hSw); go_simp <;> with_reducible rfl)
      simp only [Act.put, List.setIfInBounds_toArray, List.set_cons_zero, List.set_cons_succ]
      refine wpAnyH_take (i := 12) (oi := { dst := some 31, op := Op.move (Operand.tmp 4), type := 3, pos := "ref.go:123", after := #[], guard := none }) (v := ?vq9) rfl (by as_aux_lemma => kernel_rfl) (by as_aux_lemma => kernel_rfl) (by as_aux_lemma => kernel_rfl) (fun _ _ _ h => h) (Or.inl ⟨by rfl, ?yq9⟩) (by assumption) ?rq9
      case yq9 => (intro wS hSw; (try dsimp only at hSw); obtain ⟨kq0, kq1, kq2⟩ := HP.out wS hSw; have kl := cl_label HS.out.2.1.1 (HR.out wS hSw); go_simp <;> with_reducible rfl)
      simp only [Act.put, List.setIfInBounds_toArray, List.set_cons_zero, List.set_cons_succ]
      refine wpAnyH_take (i := 13) (oi := { dst := some 32, op := Op.indexAddr 24 (Operand.tmp 30) (Operand.tmp 31), type := 0, pos := "ref.go:123", after := #[{ on := 11, ground := Ground.data }, { on := 12, ground := Ground.data }], guard := none }) (v := ?vq10) rfl (by as_aux_lemma => kernel_rfl) (by as_aux_lemma => kernel_rfl) (by as_aux_lemma => kernel_rfl) (fun _ _ _ h => h) (Or.inl ⟨by rfl, ?yq10⟩) (by assumption) ?rq10
      case yq10 => (intro wS hSw; (try dsimp only at hSw); obtain ⟨kq0, kq1, kq2⟩ := HP.out wS hSw; have kl := cl_label HS.out.2.1.1 (HR.out wS hSw); go_simp <;> with_reducible rfl)
      simp only [Act.put, List.setIfInBounds_toArray, List.set_cons_zero, List.set_cons_succ]
      refine wpAnyH_take (i := 14) (oi := { dst := some 33, op := Op.fieldAddr 72 (Operand.tmp 32) 1, type := 0, pos := "ref.go:123", after := #[{ on := 13, ground := Ground.data }], guard := none }) (v := ?vq11) rfl (by as_aux_lemma => kernel_rfl) (by as_aux_lemma => kernel_rfl) (by as_aux_lemma => kernel_rfl) (fun _ _ _ h => h) (Or.inl ⟨by rfl, ?yq11⟩) (by assumption) ?rq11
      case yq11 => (intro wS hSw; (try dsimp only at hSw); obtain ⟨kq0, kq1, kq2⟩ := HP.out wS hSw; have kl := cl_label HS.out.2.1.1 (HR.out wS hSw); go_simp <;> with_reducible rfl)
      simp only [Act.put, List.setIfInBounds_toArray, List.set_cons_zero, List.set_cons_succ]
      refine wpAnyH_take (i := 15) (oi := { dst := some 34, op := Op.load 23 (Operand.tmp 33), type := 23, pos := "ref.go:123", after := #[{ on := 14, ground := Ground.data }], guard := none }) (v := ?vq12) rfl (by as_aux_lemma => kernel_rfl) (by as_aux_lemma => kernel_rfl) (by as_aux_lemma => kernel_rfl) (fun _ _ _ h => h) (Or.inl ⟨by rfl, ?yq12⟩) (by assumption) ?rq12
      case yq12 => (intro wS hSw; (try dsimp only at hSw); obtain ⟨kq0, kq1, kq2⟩ := HP.out wS hSw; have kl := cl_label HS.out.2.1.1 (HR.out wS hSw); go_simp <;> with_reducible rfl)
      simp only [Act.put, List.setIfInBounds_toArray, List.set_cons_zero, List.set_cons_succ]
      refine wpAnyH_ready (rs := [7]) (by as_aux_lemma => kernel_rfl) (by simp) ?_
      refine AllReadyH.cons (o := { dst := some 26, op := Op.call { callee := Callee.value (Operand.func 31), args := #[Operand.tmp 25], argTypes := #[29] }, type := 9, pos := "ref.go:123", after := #[{ on := 6, ground := Ground.data }], guard := none }) rfl (fun K hK => ?_) (by exact AllReadyH.nil)
      rw [if_pos (by rfl)]
      go_simp
      (go_at_call 31; refine (HNM.out _).mono ?_; rintro e wz ⟨rfl, hz⟩)
      replace HC := Lib.hid (HC.out.trans (hz.mono HC.out.size))
      clear hz
      refine hK.out _ _ (by (try dsimp only); (first | exact HX0.out.1.trans (HC.out.mono HX0.out.1.size) | exact balloc (HX0.out.1.trans (HC.out.mono HX0.out.1.size)) _ | exact HB5.out)) (fun hHeld => ?_)
      clear hK K
      simp only [List.setIfInBounds_toArray, List.set_cons_zero, List.set_cons_succ]
      refine wpAnyH_take (i := 8) (oi := { dst := some 27, op := Op.binOp BinOp.add 9 (Operand.const (Value.string { data := #[99, 108, 101, 97, 114, 32] })) (Operand.tmp 26) 9, type := 9, pos := "ref.go:123", after := #[{ on := 7, ground := Ground.data }], guard := none }) (v := ?vq14) rfl (by as_aux_lemma => kernel_rfl) (by as_aux_lemma => kernel_rfl) (by as_aux_lemma => kernel_rfl) (fun _ _ _ h => h) (Or.inl ⟨by rfl, ?yq14⟩) (by assumption) ?rq14
      case yq14 => (intro wS hSw; (try dsimp only at hSw); obtain ⟨kq0, kq1, kq2⟩ := HP.out wS hSw; have kl := cl_label HS.out.2.1.1 (HR.out wS hSw); go_simp <;> with_reducible rfl)
      simp only [Act.put, List.setIfInBounds_toArray, List.set_cons_zero, List.set_cons_succ]
      refine wpAnyH_take (i := 9) (oi := { dst := some 28, op := Op.binOp BinOp.add 9 (Operand.tmp 27) (Operand.const (Value.string { data := #[32] })) 9, type := 9, pos := "ref.go:123", after := #[{ on := 8, ground := Ground.data }], guard := none }) (v := ?vq15) rfl (by as_aux_lemma => kernel_rfl) (by as_aux_lemma => kernel_rfl) (by as_aux_lemma => kernel_rfl) (fun _ _ _ h => h) (Or.inl ⟨by rfl, ?yq15⟩) (by assumption) ?rq15
      case yq15 => (intro wS hSw; (try dsimp only at hSw); obtain ⟨kq0, kq1, kq2⟩ := HP.out wS hSw; have kl := cl_label HS.out.2.1.1 (HR.out wS hSw); go_simp <;> with_reducible rfl)
      simp only [Act.put, List.setIfInBounds_toArray, List.set_cons_zero, List.set_cons_succ]
      refine wpAnyH_ready (rs := [16]) (by as_aux_lemma => kernel_rfl) (by simp) ?_
      refine AllReadyH.cons (o := { dst := some 35, op := Op.call { callee := Callee.value (Operand.func 53), args := #[Operand.tmp 34], argTypes := #[23] }, type := 9, pos := "ref.go:123", after := #[{ on := 15, ground := Ground.data }, { on := 7, ground := Ground.chain }], guard := none }) rfl (fun K hK => ?_) (by exact AllReadyH.nil)
      rw [if_pos (by rfl)]
      go_simp
      (go_at_call 53; refine (HTX.out _).mono ?_; rintro e wy ⟨rfl, hz⟩)
      replace HC := Lib.hid (HC.out.trans (hz.mono HC.out.size))
      clear hz
      obtain ⟨gn, cn, w5, hap, hO5, hB5, _⟩ := app_str B (lnC c) u3 (lnD d :: (cs.take k).map lnC) wy (HS.out.2.2.2.1.keep HC.out) ⟨by have := HC.out.size; have := HX0.out.1.size; have := HX0.out.2; omega, by have := H0.out.2.1; simp only [List.length_cons, List.length_map, List.length_take]; omega⟩
      rw [show strV (lnC c) = .string S3 from congrArg Value.string HS.out.2.2.1] at hap
      obtain ⟨NL, hNL⟩ : ∃ NL, (lnD d :: (cs.take k).map lnC).length + 1 = NL := ⟨_, rfl⟩
      rw [hNL] at hap hO5
      have HB5 := Lib.hid (show Below X.heap.size X w5 from by
        have h1 := HX0.out.1.trans (HC.out.mono HX0.out.1.size)
        rw [← HX0.out.2] at hB5
        exact h1.trans hB5)
      have HO5 := Lib.hid hO5
      clear hO5 hB5 hNL
      refine hK.out _ _ (by (try dsimp only); (first | exact HX0.out.1.trans (HC.out.mono HX0.out.1.size) | exact balloc (HX0.out.1.trans (HC.out.mono HX0.out.1.size)) _ | exact HB5.out)) (fun hHeld => ?_)
      clear hK K
      simp only [List.setIfInBounds_toArray, List.set_cons_zero, List.set_cons_succ]
      refine wpAnyH_take (i := 17) (oi := { dst := some 36, op := Op.binOp BinOp.add 9 (Operand.tmp 28) (Operand.tmp 35) 9, type := 9, pos := "ref.go:123", after := #[{ on := 9, ground := Ground.data }, { on := 16, ground := Ground.data }], guard := none }) (v := ?vq17) rfl (by as_aux_lemma => kernel_rfl) (by as_aux_lemma => kernel_rfl) (by as_aux_lemma => kernel_rfl) (fun _ _ _ h => h) (Or.inl ⟨by rfl, ?yq17⟩) (by assumption) ?rq17
      case yq17 => (intro wS hSw; (try dsimp only at hSw); obtain ⟨kq0, kq1, kq2⟩ := HP.out wS hSw; have kl := cl_label HS.out.2.1.1 (HR.out wS hSw); go_simp <;> with_reducible rfl)
      simp only [Act.put, List.setIfInBounds_toArray, List.set_cons_zero, List.set_cons_succ]
      refine wpAnyH_ready (rs := [18]) (by as_aux_lemma => kernel_rfl) (by simp) ?_
      refine AllReadyH.cons (o := { dst := some 37, op := Op.buildSlice 45 1 #[(0, Operand.tmp 36)], type := 45, pos := "ref.go:123", after := #[{ on := 17, ground := Ground.data }], guard := none }) rfl (fun K hK => ?_) (by exact AllReadyH.nil)
      rw [if_pos (by rfl)]
      go_simp
      refine hK.out _ _ (by (try dsimp only); (first | exact HX0.out.1.trans (HC.out.mono HX0.out.1.size) | exact balloc (HX0.out.1.trans (HC.out.mono HX0.out.1.size)) _ | exact HB5.out)) (fun hHeld => ?_)
      clear hK K
      simp only [List.setIfInBounds_toArray, List.set_cons_zero, List.set_cons_succ]
      refine wpAnyH_ready (rs := [19]) (by as_aux_lemma => kernel_rfl) (by simp) ?_
      refine AllReadyH.cons (o := { dst := some 38, op := Op.call { callee := Callee.builtin Builtin.append, args := #[Operand.tmp 19, Operand.tmp 37], argTypes := #[45, 45] }, type := 45, pos := "ref.go:123", after := #[{ on := 0, ground := Ground.data }, { on := 18, ground := Ground.data }, { on := 16, ground := Ground.chain }], guard := none }) rfl (fun K hK => ?_) (by exact AllReadyH.nil)
      rw [if_pos (by rfl)]
      refine wp_app_run (.tmp 19) (.tmp 37) 45 rfl rfl rfl hap ?_
      refine hK.out _ _ (by (try dsimp only); (first | exact HX0.out.1.trans (HC.out.mono HX0.out.1.size) | exact balloc (HX0.out.1.trans (HC.out.mono HX0.out.1.size)) _ | exact HB5.out)) (fun hHeld => ?_)
      clear hK K
      simp only [List.setIfInBounds_toArray, List.set_cons_zero, List.set_cons_succ]
      refine wpAnyH_take (i := 20) (oi := { dst := some 3, op := Op.assign (Operand.tmp 38), type := 45, pos := "ref.go:123", after := #[{ on := 19, ground := Ground.data }, { on := 19, ground := Ground.chain }, { on := 0, ground := Ground.phase }, { on := 1, ground := Ground.phase }, { on := 2, ground := Ground.phase }, { on := 3, ground := Ground.phase }, { on := 4, ground := Ground.phase }, { on := 5, ground := Ground.phase }, { on := 6, ground := Ground.phase }, { on := 7, ground := Ground.phase }, { on := 8, ground := Ground.phase }, { on := 9, ground := Ground.phase }, { on := 10, ground := Ground.phase }, { on := 11, ground := Ground.phase }, { on := 12, ground := Ground.phase }, { on := 13, ground := Ground.phase }, { on := 14, ground := Ground.phase }, { on := 15, ground := Ground.phase }, { on := 16, ground := Ground.phase }, { on := 17, ground := Ground.phase }, { on := 18, ground := Ground.phase }, { on := 19, ground := Ground.phase }], guard := none }) (v := ?vq20) rfl (by as_aux_lemma => kernel_rfl) (by as_aux_lemma => kernel_rfl) (by as_aux_lemma => kernel_rfl) (fun _ _ _ h => h) (Or.inl ⟨by rfl, ?yq20⟩) (by assumption) ?rq20
      case yq20 => (intro wS hSw; (try dsimp only at hSw); obtain ⟨kq0, kq1, kq2⟩ := HP.out wS hSw; have kl := cl_label HS.out.2.1.1 (HR.out wS hSw); go_simp <;> with_reducible rfl)
      simp only [Act.put, List.setIfInBounds_toArray, List.set_cons_zero, List.set_cons_succ]
      refine wpAnyH_done (by as_aux_lemma => kernel_rfl) ?_ _
      clear hHeld hap
      go_wp2_with fail
      exact ⟨⟨k + 1, by omega, congrArg (Value.int .i64) (by omega), by rw [List.take_add_one, HS.out.1]; simpa using HO5.out, HB5.out⟩, by simp [intOf]; omega⟩
    · obtain rfl : n1 = k := by omega
      have hO1 : OwS wr B u3 (lnD d :: (cs.map lnC ++ (rs.take 0).map lnR)) := by
        rw [List.take_of_length_le (by rw [HN.out.1]; exact Nat.le_refl _)] at hOw
        simpa using hOw
      have HB1 := Lib.hid (And.intro hO1 hXw)
      clear hOw hXw hO1
      go_wp2_with fail
      clear k0 k1 k2
      go_loopw [3, 5] (fun tv t wr => ∃ j : Nat, j ≤ n2 ∧ t = .int .i64 j ∧ OwS wr B tv (lnD d :: (cs.map lnC ++ (rs.take j).map lnR)) ∧ Below X.heap.size X wr) (fun _ t _ => n2 - (intOf t).toNat)
      case atStart => exact ⟨0, Nat.zero_le _, rfl, HB1.out.1, HB1.out.2⟩
      clear HB1
      case round =>
        obtain ⟨j, hk, rfl, hOw, hXw⟩ := hrel
        obtain ⟨k0, k1, k2⟩ := HP.out wr hXw
        by_cases hlt : j < n2
        · obtain ⟨c, hc⟩ : ∃ c, rs[j]? = some c := ⟨_, List.getElem?_eq_getElem (by have := HN.out; omega)⟩
          obtain ⟨b, o, rfl⟩ := (HRS.out wr hXw).first hc
          have hca := (HRS.out wr hXw).1 c (List.mem_of_getElem? hc)
          have hr := (HRS.out wr hXw).row hc
          have hzs : zrC.size = 22 := by rw [zrC_lit]; rfl
          have g0 : (j : Int) < (n2 : Int) := by omega
          have g1 : (0 : Int) ≤ (j : Int) := by omega
          have g2 : IntKind.i64.wrap ((j : Int) + 1) = ((j + 1 : Nat) : Int) := IntWalk.i64_in _ (by omega)
          have g3 : IntKind.u64.wrap (c.2.1 : Int) = (c.2.1 : Int) := IntWalk.u64_in _ (by have := hca.2.1; omega)
          obtain ⟨NM, hNM⟩ : ∃ T, (⟨(nmL c.1).toArray⟩ : ByteArray) = T := ⟨_, rfl⟩
          obtain ⟨DD, hDD⟩ : ∃ T, (⟨(Lib.decDigits c.2.1).toArray⟩ : ByteArray) = T := ⟨_, rfl⟩
          obtain ⟨TX, hTX⟩ : ∃ T, (⟨(txL c.2.2).toArray⟩ : ByteArray) = T := ⟨_, rfl⟩
          obtain ⟨S1, hS1⟩ : ∃ T, (⟨#[114, 101, 108, 101, 97, 115, 101, 32]⟩ : ByteArray) ++ NM = T := ⟨_, rfl⟩
          obtain ⟨S2, hS2⟩ : ∃ T, S1 ++ (⟨#[32]⟩ : ByteArray) = T := ⟨_, rfl⟩
          obtain ⟨S3, hS3⟩ : ∃ T, S2 ++ DD = T := ⟨_, rfl⟩
          obtain ⟨S4, hS4⟩ : ∃ T, S3 ++ (⟨#[32]⟩ : ByteArray) = T := ⟨_, rfl⟩
          obtain ⟨S5, hS5⟩ : ∃ T, S4 ++ TX = T := ⟨_, rfl⟩
          obtain ⟨q0, z0⟩ : ∃ q, DD.size = q := ⟨_, rfl⟩
          obtain ⟨q3, z5⟩ : ∃ q, S3.size = q := ⟨_, rfl⟩
          obtain ⟨q4, z6⟩ : ∃ q, S4.size = q := ⟨_, rfl⟩
          obtain ⟨q5, z7⟩ : ∃ q, TX.size = q := ⟨_, rfl⟩
          have z1 : NM.size = 42 := by rw [← hNM, siz_ba, nmL_len, hca.1.1]
          have y0 : q0 ≤ 20 := by rw [← z0, ← hDD, siz_ba]; exact (decDigits_len hca.2.1).2
          have y5 : q5 ≤ 192 := by rw [← z7, ← hTX, siz_ba]; exact txL_len c.2.2
          have z3 : S1.size = 50 := by rw [← hS1, ByteArray.size_append, z1]; rfl
          have z4 : S2.size = 51 := by rw [← hS2, ByteArray.size_append, z3]; rfl
          have y3 : q3 = 51 + q0 := by rw [← z5, ← hS3, ByteArray.size_append, z4, z0]
          have y4 : q4 = q3 + 1 := by rw [← z6, ← hS4, ByteArray.size_append, z5]; rfl
          have x1 : ¬ 9223372036854775807 < 51 + q0 := by omega
          have x2 : ¬ 9223372036854775807 < q3 + 1 := by omega
          have x3 : ¬ 9223372036854775807 < q4 + q5 := by omega
          have hS : (⟨(lnR c).toArray⟩ : ByteArray) = S5 := by
            rw [← hS5, ← hS4, ← hS3, ← hS2, ← hS1, ← hNM, ← hTX, ← hDD]
            rw [show (⟨#[114, 101, 108, 101, 97, 115, 101, 32]⟩ : ByteArray) = ⟨([114, 101, 108, 101, 97, 115, 101, 32] : List UInt8).toArray⟩ from rfl, show (⟨#[32]⟩ : ByteArray) = ⟨([32] : List UInt8).toArray⟩ from rfl, cat_ba, cat_ba, cat_ba, cat_ba, cat_ba]
            simp [lnR]
          have HNM := Lib.hid (fun (Y : World) => (hNM ▸ rname_any c.1 hca.1 Y : Calls Tryz.prog 31 #[.agg (adC c.1)] Y fun e w' => e = .returned (.string NM) ∧ Below Y.heap.size Y w'))
          have HDD := Lib.hid (fun (Y : World) => (hDD ▸ rnumberN_any c.2.1 (by have := hca.2.1; omega) Y : Calls Tryz.prog 54 #[.int .u64 (c.2.1 : Nat)] Y fun e w' => e = .returned (.string DD) ∧ Below Y.heap.size Y w'))
          have HTX := Lib.hid (fun (Y : World) => (hTX ▸ rltext_any c.2.2 hca.2.2 Y : Calls Tryz.prog 53 #[.int .u64 (c.2.2 : Nat)] Y fun e w' => e = .returned (.string TX) ∧ Below Y.heap.size Y w'))
          have HS := Lib.hid (And.intro hc (And.intro hca (And.intro hS (And.intro hOw (And.intro hXw (And.intro hr hzs))))))
          clear hNM hDD hTX hc hca hS hOw hXw hr hzs y0 y3 y4 y5
          go_upto_region 9 with fail
          refine wp_region_lit ?_
          refine wpList_plain rfl fun K hK => ?_
          go_simp
          refine hK _ _ ?_
          clear hK K
          refine wpList_plain rfl fun K hK => ?_
          go_simp
          refine hK _ _ ?_
          clear hK K
          refine wpList_plain rfl fun K hK => ?_
          go_simp
          refine hK _ _ ?_
          clear hK K
          refine wpList_plain rfl fun K hK => ?_
          go_simp
          refine hK _ _ ?_
          clear hK K
          refine wpList_load_midA rfl 74 (.tmp 49) rfl b (o + j * 22) rfl (rlC c) _ HS.out.2.2.2.2.2.1 undqr rfl (by rw [info_release, rlC_size HS.out.2.1.1]) ?_
          refine wpList_plain rfl fun K hK => ?_
          go_simp
          refine hK _ _ ?_
          clear hK K
          rw [← zrC_lit]
          refine wpList_store_row rfl 74 (.tmp 6) (.tmp 50) rfl wr.heap.size (rlC c) rfl rfl 74 zrC (Blk.new wr _ _) (by rw [info_release, rlC_size HS.out.2.1.1]) (by rw [rlC_size HS.out.2.1.1, HS.out.2.2.2.2.2.2]) (rlC_one c) (wpList_nil ?_)
          rw [World.setRow_alloc_new]
          obtain ⟨w6, hw6⟩ : ∃ w6, wr.alloc (.cells (rlC c) 74) = w6 := ⟨_, rfl⟩
          have hN6 : Blk w6 wr.heap.size 74 (rlC c) := by rw [← hw6]; exact Blk.new wr _ _
          have hb6 : Below wr.heap.size wr w6 := by rw [← hw6]; exact balloc (Below.refl _ wr) _
          rw [hw6]
          have hX6 : Below X.heap.size X w6 := HS.out.2.2.2.2.1.trans (hb6.mono HS.out.2.2.2.2.1.size)
          have H6 := Lib.hid (And.intro hN6 (And.intro (HS.out.2.2.2.1.keep hb6) (And.intro hX6 hb6)))
          have hS0 : Blk w6.drew wr.heap.size 74 (rlC c) ∧ Below X.heap.size X w6.drew := ⟨hN6.drew', hX6.trans ⟨rfl, rfl, rfl, Nat.le_refl _, fun _ _ => rfl⟩⟩
          have HC := Lib.hid (show Below w6.heap.size w6 w6.drew from ⟨rfl, rfl, rfl, Nat.le_refl _, fun _ _ => rfl⟩)
          clear hw6 hN6 hb6 hX6 k0 k1 k2
          go_upto_region 10 with fail
          refine wp_region_held_drew (S := fun w' => Blk w' wr.heap.size 74 (rlC c) ∧ Below X.heap.size X w') (by as_aux_lemma => kernel_rfl) hS0 (fun hHeld => ?_)
          simp only [List.size_toArray, List.length_cons, List.length_nil, Nat.reduceAdd, Array.replicate_succ, Array.replicate_zero, List.push_toArray, List.nil_append, List.cons_append]
          refine wpAnyH_take (i := 0) (oi := { dst := some 51, op := Op.move (Operand.tmp 3), type := 45, pos := "ref.go:127", after := #[], guard := none }) (v := ?vq0R) rfl (by as_aux_lemma => kernel_rfl) (by as_aux_lemma => kernel_rfl) (by as_aux_lemma => kernel_rfl) (fun _ _ _ h => h) (Or.inl ⟨by rfl, ?yq0R⟩) (by assumption) ?rq0R
          case yq0R => (intro wS hSw; (try dsimp only at hSw); have kp := rl_entry HS.out.2.1.1 hSw.1.range; have kl := rl_target HS.out.2.1.1 hSw.1.range; rw [Nat.zero_add] at kp kl; go_simp <;> with_reducible rfl)
          simp only [Act.put, List.setIfInBounds_toArray, List.set_cons_zero, List.set_cons_succ]
          refine wpAnyH_take (i := 1) (oi := { dst := some 52, op := Op.fieldAddr 74 (Operand.tmp 6) 0, type := 0, pos := "ref.go:127", after := #[], guard := none }) (v := ?vq1R) rfl (by as_aux_lemma => kernel_rfl) (by as_aux_lemma => kernel_rfl) (by as_aux_lemma => kernel_rfl) (fun _ _ _ h => h) (Or.inl ⟨by rfl, ?yq1R⟩) (by assumption) ?rq1R
          case yq1R => (intro wS hSw; (try dsimp only at hSw); have kp := rl_entry HS.out.2.1.1 hSw.1.range; have kl := rl_target HS.out.2.1.1 hSw.1.range; rw [Nat.zero_add] at kp kl; go_simp <;> with_reducible rfl)
          simp only [Act.put, List.setIfInBounds_toArray, List.set_cons_zero, List.set_cons_succ]
          refine wpAnyH_take (i := 2) (oi := { dst := some 53, op := Op.load 29 (Operand.tmp 52), type := 29, pos := "ref.go:127", after := #[{ on := 1, ground := Ground.data }], guard := none }) (v := .agg (adC c.1)) rfl (by as_aux_lemma => kernel_rfl) (by as_aux_lemma => kernel_rfl) (by as_aux_lemma => kernel_rfl) (fun _ _ _ h => h) (yieldsIf_load_A (by rfl) 29 (.tmp 52) rfl (wr.heap.size) (0) rfl (adC c.1) _ (fun wS hw => by rw [adC_list]; exact rl_addr hw.1.range) und_addr rfl (by rw [info_addr, adC_size HS.out.2.1.1])) (by assumption) ?_
          simp only [Act.put, List.setIfInBounds_toArray, List.set_cons_zero, List.set_cons_succ]
          refine wpAnyH_take (i := 6) (oi := { dst := some 57, op := Op.fieldAddr 74 (Operand.tmp 6) 1, type := 0, pos := "ref.go:127", after := #[], guard := none }) (v := ?vq3R) rfl (by as_aux_lemma => kernel_rfl) (by as_aux_lemma => kernel_rfl) (by as_aux_lemma => kernel_rfl) (fun _ _ _ h => h) (Or.inl ⟨by rfl, ?yq3R⟩) (by assumption) ?rq3R
          case yq3R => (intro wS hSw; (try dsimp only at hSw); have kp := rl_entry HS.out.2.1.1 hSw.1.range; have kl := rl_target HS.out.2.1.1 hSw.1.range; rw [Nat.zero_add] at kp kl; go_simp <;> with_reducible rfl)
          simp only [Act.put, List.setIfInBounds_toArray, List.set_cons_zero, List.set_cons_succ]
          refine wpAnyH_take (i := 7) (oi := { dst := some 58, op := Op.load 30 (Operand.tmp 57), type := 30, pos := "ref.go:127", after := #[{ on := 6, ground := Ground.data }], guard := none }) (v := ?vq4R) rfl (by as_aux_lemma => kernel_rfl) (by as_aux_lemma => kernel_rfl) (by as_aux_lemma => kernel_rfl) (fun _ _ _ h => h) (Or.inl ⟨by rfl, ?yq4R⟩) (by assumption) ?rq4R
          case yq4R => (intro wS hSw; (try dsimp only at hSw); have kp := rl_entry HS.out.2.1.1 hSw.1.range; have kl := rl_target HS.out.2.1.1 hSw.1.range; rw [Nat.zero_add] at kp kl; go_simp <;> with_reducible rfl)
          simp only [Act.put, List.setIfInBounds_toArray, List.set_cons_zero, List.set_cons_succ]
          refine wpAnyH_take (i := 8) (oi := { dst := some 59, op := Op.convert 30 22 (Operand.tmp 58), type := 22, pos := "ref.go:127", after := #[{ on := 7, ground := Ground.data }], guard := none }) (v := ?vq5R) rfl (by as_aux_lemma => kernel_rfl) (by as_aux_lemma => kernel_rfl) (by as_aux_lemma => kernel_rfl) (fun _ _ _ h => h) (Or.inl ⟨by rfl, ?yq5R⟩) (by assumption) ?rq5R
          case yq5R => (intro wS hSw; (try dsimp only at hSw); have kp := rl_entry HS.out.2.1.1 hSw.1.range; have kl := rl_target HS.out.2.1.1 hSw.1.range; rw [Nat.zero_add] at kp kl; go_simp <;> with_reducible rfl)
          simp only [Act.put, List.setIfInBounds_toArray, List.set_cons_zero, List.set_cons_succ]
          refine wpAnyH_take (i := 12) (oi := { dst := some 63, op := Op.fieldAddr 74 (Operand.tmp 6) 2, type := 0, pos := "ref.go:127", after := #[], guard := none }) (v := ?vq6R) rfl (by as_aux_lemma => kernel_rfl) (by as_aux_lemma => kernel_rfl) (by as_aux_lemma => kernel_rfl) (fun _ _ _ h => h) (Or.inl ⟨by rfl, ?yq6R⟩) (by assumption) ?rq6R
          case yq6R => (intro wS hSw; (try dsimp only at hSw); have kp := rl_entry HS.out.2.1.1 hSw.1.range; have kl := rl_target HS.out.2.1.1 hSw.1.range; rw [Nat.zero_add] at kp kl; go_simp <;> with_reducible rfl)
          simp only [Act.put, List.setIfInBounds_toArray, List.set_cons_zero, List.set_cons_succ]
          refine wpAnyH_take (i := 13) (oi := { dst := some 64, op := Op.load 23 (Operand.tmp 63), type := 23, pos := "ref.go:127", after := #[{ on := 12, ground := Ground.data }], guard := none }) (v := ?vq7R) rfl (by as_aux_lemma => kernel_rfl) (by as_aux_lemma => kernel_rfl) (by as_aux_lemma => kernel_rfl) (fun _ _ _ h => h) (Or.inl ⟨by rfl, ?yq7R⟩) (by assumption) ?rq7R
          case yq7R => (intro wS hSw; (try dsimp only at hSw); have kp := rl_entry HS.out.2.1.1 hSw.1.range; have kl := rl_target HS.out.2.1.1 hSw.1.range; rw [Nat.zero_add] at kp kl; go_simp <;> with_reducible rfl)
          simp only [Act.put, List.setIfInBounds_toArray, List.set_cons_zero, List.set_cons_succ]
          refine wpAnyH_ready (rs := [3]) (by as_aux_lemma => kernel_rfl) (by simp) ?_
          refine AllReadyH.cons (o := { dst := some 54, op := Op.call { callee := Callee.value (Operand.func 31), args := #[Operand.tmp 53], argTypes := #[29] }, type := 9, pos := "ref.go:127", after := #[{ on := 2, ground := Ground.data }], guard := none }) rfl (fun K hK => ?_) (by exact AllReadyH.nil)
          rw [if_pos (by rfl)]
          go_simp
          (go_at_call 31; refine (HNM.out _).mono ?_; rintro e wz ⟨rfl, hz⟩)
          replace HC := Lib.hid (HC.out.trans (hz.mono HC.out.size))
          clear hz
          refine hK.out _ _ (by (try dsimp only); (first | exact ⟨H6.out.1.keep HC.out, H6.out.2.2.1.trans (HC.out.mono H6.out.2.2.1.size)⟩ | exact ⟨(H6.out.1.keep HC.out).alloc _, balloc (H6.out.2.2.1.trans (HC.out.mono H6.out.2.2.1.size)) _⟩ | exact HB5.out)) (fun hHeld => ?_)
          clear hK K
          simp only [List.setIfInBounds_toArray, List.set_cons_zero, List.set_cons_succ]
          refine wpAnyH_take (i := 4) (oi := { dst := some 55, op := Op.binOp BinOp.add 9 (Operand.const (Value.string { data := #[114, 101, 108, 101, 97, 115, 101, 32] })) (Operand.tmp 54) 9, type := 9, pos := "ref.go:127", after := #[{ on := 3, ground := Ground.data }], guard := none }) (v := ?vq9R) rfl (by as_aux_lemma => kernel_rfl) (by as_aux_lemma => kernel_rfl) (by as_aux_lemma => kernel_rfl) (fun _ _ _ h => h) (Or.inl ⟨by rfl, ?yq9R⟩) (by assumption) ?rq9R
          case yq9R => (intro wS hSw; (try dsimp only at hSw); have kp := rl_entry HS.out.2.1.1 hSw.1.range; have kl := rl_target HS.out.2.1.1 hSw.1.range; rw [Nat.zero_add] at kp kl; go_simp <;> with_reducible rfl)
          simp only [Act.put, List.setIfInBounds_toArray, List.set_cons_zero, List.set_cons_succ]
          refine wpAnyH_take (i := 5) (oi := { dst := some 56, op := Op.binOp BinOp.add 9 (Operand.tmp 55) (Operand.const (Value.string { data := #[32] })) 9, type := 9, pos := "ref.go:127", after := #[{ on := 4, ground := Ground.data }], guard := none }) (v := ?vq10R) rfl (by as_aux_lemma => kernel_rfl) (by as_aux_lemma => kernel_rfl) (by as_aux_lemma => kernel_rfl) (fun _ _ _ h => h) (Or.inl ⟨by rfl, ?yq10R⟩) (by assumption) ?rq10R
          case yq10R => (intro wS hSw; (try dsimp only at hSw); have kp := rl_entry HS.out.2.1.1 hSw.1.range; have kl := rl_target HS.out.2.1.1 hSw.1.range; rw [Nat.zero_add] at kp kl; go_simp <;> with_reducible rfl)
          simp only [Act.put, List.setIfInBounds_toArray, List.set_cons_zero, List.set_cons_succ]
          refine wpAnyH_ready (rs := [9]) (by as_aux_lemma => kernel_rfl) (by simp) ?_
          refine AllReadyH.cons (o := { dst := some 60, op := Op.call { callee := Callee.value (Operand.func 54), args := #[Operand.tmp 59], argTypes := #[22] }, type := 9, pos := "ref.go:127", after := #[{ on := 8, ground := Ground.data }, { on := 3, ground := Ground.chain }], guard := none }) rfl (fun K hK => ?_) (by exact AllReadyH.nil)
          rw [if_pos (by rfl)]
          go_simp
          (go_at_call 54; refine (HDD.out _).mono ?_; rintro e wv ⟨rfl, hz⟩)
          replace HC := Lib.hid (HC.out.trans (hz.mono HC.out.size))
          clear hz
          refine hK.out _ _ (by (try dsimp only); (first | exact ⟨H6.out.1.keep HC.out, H6.out.2.2.1.trans (HC.out.mono H6.out.2.2.1.size)⟩ | exact ⟨(H6.out.1.keep HC.out).alloc _, balloc (H6.out.2.2.1.trans (HC.out.mono H6.out.2.2.1.size)) _⟩ | exact HB5.out)) (fun hHeld => ?_)
          clear hK K
          simp only [List.setIfInBounds_toArray, List.set_cons_zero, List.set_cons_succ]
          refine wpAnyH_take (i := 10) (oi := { dst := some 61, op := Op.binOp BinOp.add 9 (Operand.tmp 56) (Operand.tmp 60) 9, type := 9, pos := "ref.go:127", after := #[{ on := 5, ground := Ground.data }, { on := 9, ground := Ground.data }], guard := none }) (v := ?vq12R) rfl (by as_aux_lemma => kernel_rfl) (by as_aux_lemma => kernel_rfl) (by as_aux_lemma => kernel_rfl) (fun _ _ _ h => h) (Or.inl ⟨by rfl, ?yq12R⟩) (by assumption) ?rq12R
          case yq12R => (intro wS hSw; (try dsimp only at hSw); have kp := rl_entry HS.out.2.1.1 hSw.1.range; have kl := rl_target HS.out.2.1.1 hSw.1.range; rw [Nat.zero_add] at kp kl; go_simp <;> with_reducible rfl)
          simp only [Act.put, List.setIfInBounds_toArray, List.set_cons_zero, List.set_cons_succ]
          refine wpAnyH_take (i := 11) (oi := { dst := some 62, op := Op.binOp BinOp.add 9 (Operand.tmp 61) (Operand.const (Value.string { data := #[32] })) 9, type := 9, pos := "ref.go:127", after := #[{ on := 10, ground := Ground.data }], guard := none }) (v := ?vq13R) rfl (by as_aux_lemma => kernel_rfl) (by as_aux_lemma => kernel_rfl) (by as_aux_lemma => kernel_rfl) (fun _ _ _ h => h) (Or.inl ⟨by rfl, ?yq13R⟩) (by assumption) ?rq13R
          case yq13R => (intro wS hSw; (try dsimp only at hSw); have kp := rl_entry HS.out.2.1.1 hSw.1.range; have kl := rl_target HS.out.2.1.1 hSw.1.range; rw [Nat.zero_add] at kp kl; go_simp <;> with_reducible rfl)
          simp only [Act.put, List.setIfInBounds_toArray, List.set_cons_zero, List.set_cons_succ]
          refine wpAnyH_ready (rs := [14]) (by as_aux_lemma => kernel_rfl) (by simp) ?_
          refine AllReadyH.cons (o := { dst := some 65, op := Op.call { callee := Callee.value (Operand.func 53), args := #[Operand.tmp 64], argTypes := #[23] }, type := 9, pos := "ref.go:127", after := #[{ on := 13, ground := Ground.data }, { on := 9, ground := Ground.chain }], guard := none }) rfl (fun K hK => ?_) (by exact AllReadyH.nil)
          rw [if_pos (by rfl)]
          go_simp
          (go_at_call 53; refine (HTX.out _).mono ?_; rintro e wy ⟨rfl, hz⟩)
          replace HC := Lib.hid (HC.out.trans (hz.mono HC.out.size))
          clear hz
          have hOy : OwS wy B u3 (lnD d :: (cs.map lnC ++ (rs.take j).map lnR)) := H6.out.2.1.keep HC.out
          obtain ⟨gn, cn, w5, hap, hO5, hB5, hgr⟩ := app_str B (lnR c) u3 (lnD d :: (cs.map lnC ++ (rs.take j).map lnR)) wy hOy ⟨by have := HC.out.size; have := H6.out.2.2.1.size; have := H4.out.2.2; omega, by have := H0.out.2.1; simp only [List.length_cons, List.length_append, List.length_map, List.length_take]; omega⟩
          rw [show strV (lnR c) = .string S5 from congrArg Value.string HS.out.2.2.1] at hap
          obtain ⟨NL, hNL⟩ : ∃ NL, (lnD d :: (cs.map lnC ++ (rs.take j).map lnR)).length + 1 = NL := ⟨_, rfl⟩
          rw [hNL] at hap hO5
          have HB5 := Lib.hid (show Blk w5 wr.heap.size 74 (rlC c) ∧ Below X.heap.size X w5 from by
            have h1 := H6.out.2.2.1.trans (HC.out.mono H6.out.2.2.1.size)
            rw [← H4.out.2.2] at hB5
            have hk := H6.out.1.keep HC.out
            refine ⟨(hgr.block _ hk.lt (fun e => ?_)).trans hk, h1.trans hB5⟩
            have := (World.ownsRow.lt HS.out.2.2.2.1 _ e.symm).2
            omega)
          have HO5 := Lib.hid hO5
          clear hO5 hB5 hNL hOy hgr
          refine hK.out _ _ (by (try dsimp only); (first | exact ⟨H6.out.1.keep HC.out, H6.out.2.2.1.trans (HC.out.mono H6.out.2.2.1.size)⟩ | exact ⟨(H6.out.1.keep HC.out).alloc _, balloc (H6.out.2.2.1.trans (HC.out.mono H6.out.2.2.1.size)) _⟩ | exact HB5.out)) (fun hHeld => ?_)
          clear hK K
          simp only [List.setIfInBounds_toArray, List.set_cons_zero, List.set_cons_succ]
          refine wpAnyH_take (i := 15) (oi := { dst := some 66, op := Op.binOp BinOp.add 9 (Operand.tmp 62) (Operand.tmp 65) 9, type := 9, pos := "ref.go:127", after := #[{ on := 11, ground := Ground.data }, { on := 14, ground := Ground.data }], guard := none }) (v := ?vq15R) rfl (by as_aux_lemma => kernel_rfl) (by as_aux_lemma => kernel_rfl) (by as_aux_lemma => kernel_rfl) (fun _ _ _ h => h) (Or.inl ⟨by rfl, ?yq15R⟩) (by assumption) ?rq15R
          case yq15R => (intro wS hSw; (try dsimp only at hSw); have kp := rl_entry HS.out.2.1.1 hSw.1.range; have kl := rl_target HS.out.2.1.1 hSw.1.range; rw [Nat.zero_add] at kp kl; go_simp <;> with_reducible rfl)
          simp only [Act.put, List.setIfInBounds_toArray, List.set_cons_zero, List.set_cons_succ]
          refine wpAnyH_ready (rs := [16]) (by as_aux_lemma => kernel_rfl) (by simp) ?_
          refine AllReadyH.cons (o := { dst := some 67, op := Op.buildSlice 45 1 #[(0, Operand.tmp 66)], type := 45, pos := "ref.go:127", after := #[{ on := 15, ground := Ground.data }], guard := none }) rfl (fun K hK => ?_) (by exact AllReadyH.nil)
          rw [if_pos (by rfl)]
          go_simp
          refine hK.out _ _ (by (try dsimp only); (first | exact ⟨H6.out.1.keep HC.out, H6.out.2.2.1.trans (HC.out.mono H6.out.2.2.1.size)⟩ | exact ⟨(H6.out.1.keep HC.out).alloc _, balloc (H6.out.2.2.1.trans (HC.out.mono H6.out.2.2.1.size)) _⟩ | exact HB5.out)) (fun hHeld => ?_)
          clear hK K
          simp only [List.setIfInBounds_toArray, List.set_cons_zero, List.set_cons_succ]
          refine wpAnyH_ready (rs := [17]) (by as_aux_lemma => kernel_rfl) (by simp) ?_
          refine AllReadyH.cons (o := { dst := some 68, op := Op.call { callee := Callee.builtin Builtin.append, args := #[Operand.tmp 51, Operand.tmp 67], argTypes := #[45, 45] }, type := 45, pos := "ref.go:127", after := #[{ on := 0, ground := Ground.data }, { on := 16, ground := Ground.data }, { on := 14, ground := Ground.chain }], guard := none }) rfl (fun K hK => ?_) (by exact AllReadyH.nil)
          rw [if_pos (by rfl)]
          refine wp_app_run (.tmp 51) (.tmp 67) 45 rfl rfl rfl hap ?_
          refine hK.out _ _ (by (try dsimp only); (first | exact ⟨H6.out.1.keep HC.out, H6.out.2.2.1.trans (HC.out.mono H6.out.2.2.1.size)⟩ | exact ⟨(H6.out.1.keep HC.out).alloc _, balloc (H6.out.2.2.1.trans (HC.out.mono H6.out.2.2.1.size)) _⟩ | exact HB5.out)) (fun hHeld => ?_)
          clear hK K
          simp only [List.setIfInBounds_toArray, List.set_cons_zero, List.set_cons_succ]
          refine wpAnyH_take (i := 18) (oi := { dst := some 3, op := Op.assign (Operand.tmp 68), type := 45, pos := "ref.go:127", after := #[{ on := 17, ground := Ground.data }, { on := 17, ground := Ground.chain }, { on := 0, ground := Ground.phase }, { on := 1, ground := Ground.phase }, { on := 2, ground := Ground.phase }, { on := 3, ground := Ground.phase }, { on := 4, ground := Ground.phase }, { on := 5, ground := Ground.phase }, { on := 6, ground := Ground.phase }, { on := 7, ground := Ground.phase }, { on := 8, ground := Ground.phase }, { on := 9, ground := Ground.phase }, { on := 10, ground := Ground.phase }, { on := 11, ground := Ground.phase }, { on := 12, ground := Ground.phase }, { on := 13, ground := Ground.phase }, { on := 14, ground := Ground.phase }, { on := 15, ground := Ground.phase }, { on := 16, ground := Ground.phase }, { on := 17, ground := Ground.phase }], guard := none }) (v := ?vq18R) rfl (by as_aux_lemma => kernel_rfl) (by as_aux_lemma => kernel_rfl) (by as_aux_lemma => kernel_rfl) (fun _ _ _ h => h) (Or.inl ⟨by rfl, ?yq18R⟩) (by assumption) ?rq18R
          case yq18R => (intro wS hSw; (try dsimp only at hSw); have kp := rl_entry HS.out.2.1.1 hSw.1.range; have kl := rl_target HS.out.2.1.1 hSw.1.range; rw [Nat.zero_add] at kp kl; go_simp <;> with_reducible rfl)
          simp only [Act.put, List.setIfInBounds_toArray, List.set_cons_zero, List.set_cons_succ]
          refine wpAnyH_done (by as_aux_lemma => kernel_rfl) ?_ _
          clear hHeld hap
          go_wp2_with fail
          exact ⟨⟨j + 1, by omega, congrArg (Value.int .i64) (by omega), by rw [List.take_add_one, HS.out.1]; simpa using HO5.out, HB5.out.2⟩, by simp [intOf]; omega⟩
        · obtain rfl : n2 = j := by omega
          have hO1 : OwS wr B u3 (lnsP d cs rs) := by
            rw [List.take_of_length_le (by rw [HN.out.2]; exact Nat.le_refl _)] at hOw
            exact hOw
          have HB2 := Lib.hid (And.intro hO1 hXw)
          clear hO1 hOw hXw
          go_wp2_with fail
          go_ret
          refine ⟨_, rfl, ?_, H0.out.1.trans (HB2.out.2.mono H0.out.1.size)⟩
          have h1 := HB2.out.1
          refine ⟨h1.1, h1.2.imp id fun ⟨g, cap, cur, e1, e2, e3⟩ => ⟨g, cap, cur, e1, Nat.le_trans (Nat.le_trans H0.out.1.size (Nat.le_of_eq H4.out.2.2)) e2, e3⟩⟩

end Go.Proofs.YtenepkgjdoddgaaGreatDoor

/- policy's laws: the reference's Text. -/
namespace Go.Proofs.YtenepkgjdoddgaaGreatDoor
open Go.RowKit Go.Shelf

/-- The lines so far, as a text. -/
def upL (l : List (List UInt8)) (k : Nat) : List UInt8 := (l.take k).flatMap endL
theorem upL_step (l : List (List UInt8)) (k : Nat) (x : List UInt8) (h : l[k]? = some x) : upL l (k + 1) = upL l k ++ x ++ [10] := by
  unfold upL
  rw [List.take_add_one, h]
  simp [List.flatMap_append, endL]
theorem upL_len (l : List (List UInt8)) (h : ∀ x ∈ l, x.length ≤ 264) (k : Nat) : (upL l k).length ≤ 265 * k := by
  unfold upL
  have h1 : ∀ m : List (List UInt8), (∀ x ∈ m, x.length ≤ 264) → (m.flatMap endL).length ≤ 265 * m.length := fun m => by
    induction m with
    | nil => intro _; simp
    | cons x m ih =>
      intro hm
      have h2 := hm x (by simp)
      have h3 := ih (fun y hy => hm y (by simp [hy]))
      simp only [List.flatMap_cons, List.length_append, List.length_cons, endL, List.length_nil] at h3 ⊢
      omega
  have h2 := h1 (l.take k) (fun x hx => h x (List.mem_of_mem_take hx))
  have h3 : (l.take k).length ≤ k := by rw [List.length_take]; omega
  have h4 : 265 * (l.take k).length ≤ 265 * k := Nat.mul_le_mul_left _ h3
  omega
theorem lnsP_size {d : Nat} {cs : List (List Nat × Nat)} {rs : List (List Nat × Nat × Nat)} (hc : ∀ c ∈ cs, Ad c.1) (hr : ∀ c ∈ rs, Ad c.1 ∧ c.2.1 < 4294967296) : ∀ x ∈ lnsP d cs rs, x.length ≤ 264 := by
  intro x hx
  rcases List.mem_cons.1 hx with rfl | h
  · have := lnD_len d; omega
  · rcases List.mem_append.1 h with h | h
    · obtain ⟨c, h1, rfl⟩ := List.mem_map.1 h
      have := lnC_len (hc c h1); omega
    · obtain ⟨c, h1, rfl⟩ := List.mem_map.1 h
      exact lnR_len (hr c h1).1 (hr c h1).2

set_option maxRecDepth 100000 in
set_option maxHeartbeats 4000000 in
theorem rtext9_any (d : Nat) (cv rv : Value) (cs : List (List Nat × Nat)) (rs : List (List Nat × Nat × Nat)) (w : World) (hd : d < 18446744073709551616) (hcs : ClA w cv cs) (hrs : RlA w rv rs) :
    Calls Tryz.prog 19 #[.agg #[.int .u64 d, cv, rv]] w fun e w' => e = .returned (.tuple #[.string ⟨(txE d cs rs).toArray⟩, .int .i64 (chk d cs rs : Nat)]) ∧ Below w.heap.size w w' := by
  obtain ⟨X, hX⟩ : ∃ X, w.alloc (.cells #[.int .u64 d, cv, rv] 27) = X := ⟨_, rfl⟩
  have b1 : Blk X w.heap.size 27 #[.int .u64 d, cv, rv] := by rw [← hX]; exact Blk.new w _ _
  have hW : Below w.heap.size w X := by rw [← hX]; exact balloc (Below.refl _ _) _
  have HX := Lib.hid hX
  have HC := Lib.hid (fun (Y : World) (hY : Below X.heap.size X Y) => rcheck_any d cv rv cs rs Y hd (hcs.new (hW.trans (hY.mono hW.size))) (hrs.new (hW.trans (hY.mono hW.size))))
  have HL := Lib.hid (fun (hl : cs.length ≤ 64 ∧ rs.length ≤ 64) (Y : World) (hY : Below X.heap.size X Y) => rlines_any d cv rv cs rs Y hd (hcs.new (hW.trans (hY.mono hW.size))) (hrs.new (hW.trans (hY.mono hW.size))) hl)
  have HA := Lib.hid (lnsP_size (d := d) (fun c hc => (hcs.1 c hc).1) (fun c hc => ⟨(hrs.1 c hc).1, (hrs.1 c hc).2.1⟩))
  have HP := Lib.hid (fun (Y : World) (hY : Below X.heap.size X Y) => (by
    have q := b1.keep hY
    exact ⟨cell_of_row _ _ 0 _ _ _ q, cell_of_row _ _ 1 _ _ _ q, cell_of_row _ _ 2 _ _ _ q⟩ : Y.cell? ⟨w.heap.size, 0, none⟩ = some (.int .u64 d) ∧ Y.cell? ⟨w.heap.size, 1, none⟩ = some cv ∧ Y.cell? ⟨w.heap.size, 2, none⟩ = some rv))
  have H0 := Lib.hid hW
  obtain ⟨k0, k1, k2⟩ := HP.out X (Below.refl _ _)
  obtain ⟨_, x1, c1, rfl, _⟩ := hcs
  obtain ⟨_, x2, c2, rfl, _⟩ := hrs
  clear hX b1 hW hd
  by_cases hk : chk d cs rs = 0
  · have hlen := chk_len hk
    have HT := Lib.hid (show txE d cs rs = upL (lnsP d cs rs) (lnsP d cs rs).length by unfold txE upL txP; rw [if_pos hk, List.take_length])
    rw [hk] at HC ⊢
    have HLL := Lib.hid (HL.out hlen)
    have hnl : (lnsP d cs rs).length ≤ 200 := by simp [lnsP]; omega
    have HNL := Lib.hid hnl
    clear hk hlen hnl HL
    obtain ⟨L, hL⟩ : ∃ L, lnsP d cs rs = L := ⟨_, rfl⟩
    rw [hL] at HT HLL HNL HA
    clear hL
    go_enter Tryz.func19, Tryz.ntmps19
    go_wp2_with fail
    rw [HX.out]
    go_upto_region 6 with (first | (go_at_call 15; refine (HC.out _ (Below.refl _ _)).mono ?_; rintro r w1 ⟨rfl, h1⟩; have H1 := Lib.hid h1; obtain ⟨k0, k1, k2⟩ := HP.out w1 h1; clear h1) | (go_at_call 20; refine (HLL.out _ H1.out).mono ?_; rintro r w2 ⟨v, rfl, hO, h2⟩; have H2 := Lib.hid (And.intro hO (H1.out.trans (h2.mono H1.out.size))); clear hO h2) | fail)
    clear k0 k1 k2
    obtain ⟨x, cap, rfl, hl9, hcell⟩ := H2.out.1.at
    obtain ⟨n, hn⟩ : ∃ n, L.length = n := ⟨_, rfl⟩
    have HN := Lib.hid hn
    rw [hn] at hl9 ⊢
    have HCL := Lib.hid hcell
    have HW2 := Lib.hid H2.out.2
    clear hcell hn H2
    go_wp2_with fail
    go_loopw [5, 7] (fun ts t wr => ∃ k : Nat, k ≤ n ∧ t = .int .i64 k ∧ (∃ T : ByteArray, ts = .string T ∧ T.data.toList = upL L k) ∧ Below w2.heap.size w2 wr) (fun _ t _ => n - (intOf t).toNat)
    case atStart => exact ⟨0, Nat.zero_le _, rfl, ⟨_, rfl, rfl⟩, Below.refl _ _⟩
    case round =>
      obtain ⟨k, hk, rfl, ⟨T, rfl, hTk⟩, hB⟩ := hrel
      by_cases hlt : k < n
      · obtain ⟨y, hy⟩ : ∃ y, L[k]? = some y := ⟨_, List.getElem?_eq_getElem (by have := HN.out; omega)⟩
        obtain ⟨g, rfl, _, hgl, hcs⟩ := HCL.out (fun e => by rw [e] at hy; cases hy)
        obtain ⟨Y, hY⟩ : ∃ Y, (⟨y.toArray⟩ : ByteArray) = Y := ⟨_, rfl⟩
        have hcell : wr.cell? ⟨g, k, none⟩ = some (.string Y) := by
          have h := (hB.cell (p := ⟨g, k, none⟩) hgl).trans (hcs k y hy)
          rw [h, ← hY]
          rfl
        obtain ⟨S1, hS1⟩ : ∃ S, T ++ Y = S := ⟨_, rfl⟩
        obtain ⟨S2, hS2⟩ : ∃ S, S1 ++ (⟨#[10]⟩ : ByteArray) = S := ⟨_, rfl⟩
        obtain ⟨q1, z1⟩ : ∃ q, T.size = q := ⟨_, rfl⟩
        obtain ⟨q2, z2⟩ : ∃ q, Y.size = q := ⟨_, rfl⟩
        obtain ⟨q3, z3⟩ : ∃ q, S1.size = q := ⟨_, rfl⟩
        have y1 : q1 ≤ 53000 := by
          have h1 := upL_len L HA.out k
          have h2 : T.data.toList.length = T.size := by simp
          have h3 := HNL.out
          have h4 := HN.out
          rw [hTk] at h2
          omega
        have y2 : q2 ≤ 264 := by rw [← z2, ← hY, siz_ba]; exact HA.out y (List.mem_of_getElem? hy)
        have y3 : q3 = q1 + q2 := by rw [← z3, ← hS1, ByteArray.size_append, z1, z2]
        have x1 : ¬ 9223372036854775807 < q1 + q2 := by omega
        have x2 : ¬ 9223372036854775807 < q3 + 1 := by omega
        have hS : S2.data.toList = upL L (k + 1) := by
          rw [upL_step L k y hy, ← hTk, ← hS2, ← hS1, ← hY]
          simp
        have g0 : (k : Int) < (n : Int) := by omega
        have g1 : (0 : Int) ≤ (k : Int) := by omega
        have g2 : IntKind.i64.wrap ((k : Int) + 1) = ((k + 1 : Nat) : Int) := IntWalk.i64_in _ (by omega)
        have HS := Lib.hid (And.intro hS hB)
        clear hS hB hTk hy hY y1 y2 y3 hgl hcs
        go_wp2_with fail
        exact ⟨⟨k + 1, by omega, congrArg (Value.int .i64) (by omega), ⟨_, rfl, HS.out.1⟩, HS.out.2⟩, by simp [intOf]; omega⟩
      · obtain rfl : n = k := by omega
        have HE := Lib.hid (And.intro hTk hB)
        clear hTk hB
        go_wp2_with fail
        go_ret2
        have e : T = ⟨(txE d cs rs).toArray⟩ := by
          have h := HE.out.1
          rw [← HN.out, ← HT.out] at h
          apply ByteArray.ext
          exact Array.toList_inj.1 (h.trans rfl)
        rw [e]
        exact ⟨rfl, H0.out.trans ((HW2.out.trans (HE.out.2.mono HW2.out.size)).mono H0.out.size)⟩
  · obtain ⟨c, hc⟩ : ∃ c, chk d cs rs = c := ⟨_, rfl⟩
    have HT := Lib.hid (show txE d cs rs = [] by unfold txE; rw [if_neg hk])
    rw [hc] at HC hk ⊢
    have g0 : ((c : Int) == (0 : Int)) = false := by simp; omega
    clear hc hk HL
    rw [HT.out]
    go_enter Tryz.func19, Tryz.ntmps19
    go_wp2_with fail
    rw [HX.out]
    go_wp2_with (first | (go_at_call 15; refine (HC.out _ (Below.refl _ _)).mono ?_; rintro r w1 ⟨rfl, h1⟩; have H1 := Lib.hid h1; clear h1) | fail)
    go_ret2
    exact ⟨rfl, H0.out.trans (H1.out.mono H0.out.size)⟩
end Go.Proofs.YtenepkgjdoddgaaGreatDoor

