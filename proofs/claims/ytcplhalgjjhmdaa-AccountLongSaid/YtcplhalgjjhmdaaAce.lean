/- account: code as text and back; a body of an account, an account of a body. -/
import Derived.Test.YtcplhalgjjhmdaaAcd
import Derived.Laws.BytesString
import Derived.Lib.ConvBytes
namespace Go.Proofs.Ytcplhalgjjhmdaa
open Go.RowKit Go.Shelf Go.ChangeMaps Go.MapKept

theorem fold_coS (l : List Nat) : ∀ r : ByteArray, (l.map fun n : Nat => (n : Int)).foldl (fun r n => r.push (UInt8.ofNat n.toNat)) r = ⟨r.data ++ (l.map UInt8.ofNat).toArray⟩ := by
  induction l with
  | nil => intro r; simp
  | cons a l ih =>
    intro r
    simp only [List.map_cons, List.foldl_cons]
    rw [ih]
    cases r
    simp [ByteArray.push]
theorem coS_inj {l m : List Nat} (hl : ∀ x ∈ l, x < 256) (hm : ∀ x ∈ m, x < 256) (h : coS l = coS m) : l = m := by
  unfold coS at h
  injection h with h
  have h2 : l.map UInt8.ofNat = m.map UInt8.ofNat := by simpa using h
  have e : ∀ k : List Nat, (∀ x ∈ k, x < 256) → (k.map UInt8.ofNat).map UInt8.toNat = k := fun k hk => by
    rw [List.map_map]
    conv => rhs; rw [← List.map_id k]
    refine List.map_congr_left fun x hx => ?_
    have := hk x hx
    simp [Function.comp]; omega
  rw [← e l hl, ← e m hm, h2]
theorem coS_list (l : List Nat) : (coS l).toList = l.map UInt8.ofNat := by unfold coS; simp [go_sem]
theorem aconv (B : Nat) (v : Value) (l : List Nat) (w : World) (h : Bto B w v l) (hl : l.length ≤ 100000) : (convert 30 9 v).run Try.prog w = .ok (.string (coS l)) w := by
  obtain ⟨h1, x, cap, rfl, h3, h4, h5⟩ := h
  rw [run_convert_bytes_string w _ _ 5 x _ _ (by kernel_rfl) (by kernel_rfl) (by kernel_rfl)]
  by_cases h0 : l = []
  · subst h0
    cases x with
    | none => rfl
    | some a =>
      exact run_bytesToString (P := Try.prog) w a 0 cap [] (run_loadCells_list (P := Try.prog) w a [] (fun j u hj => by simp at hj))
  · obtain ⟨b, o, rfl, _, _, hc⟩ := h5 h0
    have hload : (loadCells ⟨b, o, none⟩ l.length).run Try.prog w = .ok ((l.map fun n : Nat => (n : Int)).map (Value.int .u8)).toArray w := by
      have h := run_loadCells_list (P := Try.prog) w ⟨b, o, none⟩ (bvs l) (fun j u hj => by
        rw [bvs_get] at hj
        cases hmj : l[j]? with
        | none => rw [hmj] at hj; cases hj
        | some z =>
          rw [hmj] at hj
          cases hj
          rw [Go.WideShapes.add_plain]
          exact hc j z hmj)
      rw [bvs_len] at h
      rw [h, List.map_map]
      rfl
    rw [run_bytesToString w _ _ _ (l.map fun n : Nat => (n : Int)) hload, fold_coS]
    simp [coS]
theorem coS_size (l : List Nat) : (coS l).size = l.length := by unfold coS; simp [ByteArray.size]
theorem coS_at {l : List Nat} (hl : ∀ x ∈ l, x < 256) {k u : Nat} (hk : l[k]? = some u) : ((coS l).data.toList.getD k 0).toNat = u := by
  have := hl u (List.mem_of_getElem? hk)
  unfold coS
  simp [List.getD, hk]
  omega
theorem abytes (l : List Nat) (hl : okC l) (w : World) : ∃ Y c, (convert 9 30 (.string (coS l))).run Try.prog w = .ok (.slice (some ⟨w.heap.size, 0, none⟩) l.length c) Y ∧ Bto Y.heap.size Y (.slice (some ⟨w.heap.size, 0, none⟩) l.length c) l ∧ Below w.heap.size w Y := by
  have h := Lib.run_convert_string_bytes (P := Try.prog) w 9 30 5 (coS l) (u := .string) (by kernel_rfl) (by kernel_rfl) (by kernel_rfl)
  rw [coS_size] at h
  refine ⟨_, _, h, ⟨hl.1, _, _, rfl, ?_, by have := hl.2; omega, fun _ => ⟨w.heap.size, 0, rfl, ?_, ?_, fun k u hk => ?_⟩⟩, ?_⟩
  · exact grownCap_ge w l.length 0 5
  · rw [Lib.bytesWorld_size]; omega
  · rw [Lib.bytesWorld_size]; omega
  · have hkl := (List.getElem?_eq_some_iff.1 hk).1
    rw [Nat.zero_add, Lib.bytesWorld_cell w _ _ k (by rw [coS_size]; exact hkl), coS_at hl.1 hk]
  · exact ⟨rfl, rfl, rfl, by rw [Lib.bytesWorld_size]; omega, fun k hk => Lib.bytesWorld_at_old w _ _ k hk⟩
/-- An account as it lies: its balance, its nonce, its code. -/
abbrev acC (v : Nat × Nat) (n : Nat) (c : Value) : Array Value := #[.int .u64 (lb v.1 0), .int .u64 (lb v.1 1), .int .u64 (lb v.1 2), .int .u64 (lb v.1 3), .int .u64 (v.2 : Nat), .int .u64 (n : Nat), c]
theorem info_bo : (Try.prog.info? 70).map (·.size) = some 7 := by kernel_rfl
theorem boC_one (e : En) : (boC e).all (·.oneCell') = true := by
  obtain ⟨v, n, c, o⟩ := e
  simp [boC, Value.oneCell']
set_option maxRecDepth 100000 in
set_option maxHeartbeats 4000000 in
theorem aofB_any (v : Nat × Nat) (n : Nat) (c : Value) (l : List Nat) (B : Nat) (o : Option Nat) (w : World) (hc : Bto B w c l) (hl : l.length ≤ 100000) :
    Calls Try.prog 24 #[.agg (acC v n c)] w fun e w' => e = .returned (.agg (boC (v, n, l, o))) ∧ Below w.heap.size w w' := by
  obtain ⟨zz, hzz⟩ : ∃ z : Array Value, #[.int .u64 0, .int .u64 0, .int .u64 0, .int .u64 0, .int .u64 0, .int .u64 0, .string ⟨#[]⟩] = z := ⟨_, rfl⟩
  obtain ⟨x, cap, rfl⟩ : ∃ x cap, c = .slice x l.length cap := by obtain ⟨_, x, cap, h, _⟩ := hc; exact ⟨x, cap, h⟩
  obtain ⟨N, hN⟩ : ∃ N, l.length = N := ⟨_, rfl⟩
  obtain ⟨X, hX⟩ : ∃ X, (w.alloc (.cells (acC v n (.slice x N cap)) 38)).alloc (.cells zz 70) = X := ⟨_, rfl⟩
  rw [hN] at hc
  have b1 : Blk X w.heap.size 38 (acC v n (.slice x N cap)) := by rw [← hX]; exact (Blk.new w _ _).alloc _
  have b2 : Blk X (w.heap.size + 1) 70 zz := by rw [← hX]; exact Blk.newS w _ _ _
  have hW : Below w.heap.size w X := by rw [← hX]; exact balloc (balloc (Below.refl _ _) _) _
  have hcv := aconv B (.slice x N cap) l X (hc.new hW) hl
  obtain ⟨S, hS⟩ : ∃ S, coS l = S := ⟨_, rfl⟩
  rw [hS] at hcv
  have c0 := cell_of_row _ _ 0 _ _ _ b1
  have c1 := cell_of_row _ _ 1 _ _ _ b1
  have c2 := cell_of_row _ _ 2 _ _ _ b1
  have c3 := cell_of_row _ _ 3 _ _ _ b1
  have c4 := cell_of_row _ _ 4 _ _ _ b1
  have c5 := cell_of_row _ _ 5 _ _ _ b1
  have c6 := cell_of_row _ _ 6 _ _ _ b1
  have HX := Lib.hid (And.intro hX (And.intro b2 hW))
  have HZ := Lib.hid (And.intro hzz (show zz.size = 7 by rw [← hzz]; rfl))
  have HS := Lib.hid (show boC (v, n, l, o) = #[.int .u64 (lb v.1 0), .int .u64 (lb v.1 1), .int .u64 (lb v.1 2), .int .u64 (lb v.1 3), .int .u64 (v.2 : Nat), .int .u64 (n : Nat), .string S] from by rw [← hS])
  have HO := Lib.hid (And.intro (boC_one (v, n, l, o)) (show (boC (v, n, l, o)).size = 7 from rfl))
  obtain ⟨E, hE⟩ : ∃ E, boC (v, n, l, o) = E := ⟨_, rfl⟩
  rw [hE] at HS HO ⊢
  rw [hN]
  clear hX b1 b2 hW hc hl hS hzz hN hE
  go_enter Try.func24, Try.ntmps24
  go_upto_region 1 with fail
  rw [HZ.out.1, HX.out.1]
  refine wp_region_lit ?_
  iterate 8 (refine wpList_plain rfl fun K hK => ?_; go_simp; refine hK _ _ ?_; clear hK K)
  rw [← HS.out]
  refine wpList_store_row rfl 70 (.tmp 2) (.tmp 10) rfl (w.heap.size + 1) E rfl rfl 70 zz HX.out.2.1 (by rw [info_bo, HO.out.2]) (by rw [HZ.out.2, HO.out.2]) HO.out.1 (wpList_nil ?_)
  have hgr : Blk (X.setRow (w.heap.size + 1) E) (w.heap.size + 1) 70 E := setRow_heap _ _ _ _ _ _ HX.out.2.1
  have HR := Lib.hid (And.intro hgr (show Below w.heap.size w (X.setRow (w.heap.size + 1) E) from below_setRow HX.out.2.2 (by omega) E))
  clear hgr c0 c1 c2 c3 c4 c5 c6 hcv
  generalize X.setRow (w.heap.size + 1) E = Z at HR ⊢
  go_wp2_with fail
  exact ⟨rfl, _, results_cell_row rfl _ _ (w.heap.size + 1) 70 E (0, 0) _ rfl HR.out.1 undbo rfl (by rw [info_bo, HO.out.2]), rfl, HR.out.2⟩
end Go.Proofs.Ytcplhalgjjhmdaa
