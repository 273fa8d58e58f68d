/- digest: pieces of no bytes. -/
import Derived.Test.YtjmfnafbjfceoaaDoorKk
import Derived.Test.YtjmfnafbjfceoaaDoorTg
import Derived.Laws.EntriesVeiled
import Derived.Lib.SliceRun
namespace Go.Proofs.YtjmfnafbjfceoaaDoor
open Go.RowKit Go.Shelf
attribute [local irreducible] ln rot
theorem grown_setCells (b : Nat) : ∀ (vs : List Value) (o : Nat) (w X : World), w.grownBy X (some b) → w.grownBy (X.setCells b o vs) (some b)
  | [], _, _, _, h => h
  | v :: vs, o, w, X, h => grown_setCells b vs (o + 1) w (X.setCell ⟨b, o, none⟩ v) (grown_set' h o v)
theorem rep136 : List.replicate 136 (Value.int .u8 0) = (Bc 136 (fun _ => 0)).toList := by kernel_rfl
theorem wpIn_load_row {P : Program} {n : Nat} {op : Oper} {a : Act} {w : World} {K : Act → World → Prop} {Q : Exit → Act → World → Prop} (ty : TypeId) (x : Operand) (ho : op.op = .load ty x)
    (b o : Nat) (hx : a.eval x = .pointer (some ⟨b, o, none⟩)) (cs : List Value) (d : TypeDesc) (hc : w.rangeAt b o cs)
    (hu : P.underlying ty = some d) (hd : d.isRow = true) (hi : (P.info? ty).map (·.size) = some cs.length)
    (h : K (a.put op.dst (.agg cs.toArray)) w) : op.wpIn Fence.wide n P a w K Q := by
  refine ⟨fun _ _ => trivial, ?_⟩
  show op.uponIn Fence.wide n P a K Q ((execOp a.eval op).run P w)
  unfold execOp
  simp only [ho, hx, Instr.loadAt, Instr.sureAddr, Sem.run_bind, Sem.run_pure, Result.andThen_ok, run_loadVar_mid w b o ty cs d hc hu hd hi]
  exact h
attribute [local irreducible] Bc Fc
end Go.Proofs.YtjmfnafbjfceoaaDoor
