/-
  The contracts of both ShowNumber: the bytes of the number, the highest first, where it goes in; else the empty text.
-/
import Derived.Test.YtghhphhnalfjaaaRead
import Derived.Handy
import Derived.Laws.IdiomStrings
namespace Go.Proofs.Ytghhphhnalfjaaa
open Go.RowKit
set_option linter.unusedVariables false
set_option maxRecDepth 100000

theorem foldl_push : ∀ (l : List Int) (r : ByteArray), l.foldl (fun r n => r.push (UInt8.ofNat n.toNat)) r = ⟨r.data ++ (l.map fun n => UInt8.ofNat n.toNat).toArray⟩
  | [], r => by simp
  | b :: l, r => by
    simp only [List.map_cons, List.foldl_cons]
    rw [foldl_push l]
    simp [ByteArray.push]

theorem conv_cells (w : World) (a : Addr) (cap : Nat) (ns : List Int) (hc : ∀ j v, ns[j]? = some v → w.cell? (a.add j) = some (.int .u8 v)) :
    (convert 22 9 (.slice (some a) ns.length cap)).run Try.prog w = .ok (.string ⟨(ns.map fun n => UInt8.ofNat n.toNat).toArray⟩) w := by
  rw [run_convert_bytes_string w _ _ 5 (some a) ns.length cap Try.underlying22 Try.underlying5 Try.underlying9]
  have hl := run_loadCells_list (P := Try.prog) w a (ns.map (Value.int .u8)) (fun j v hj => by
    rw [List.getElem?_map, Option.map_eq_some_iff] at hj
    obtain ⟨x, hx, rfl⟩ := hj
    exact hc j x hx)
  rw [List.length_map] at hl
  rw [run_bytesToString w a ns.length cap _ hl, foldl_push]
  have he0 : ByteArray.empty.data = #[] := rfl
  rw [he0]
  simp

theorem conv_new (w : World) (ns : List Int) (more : List Value) (cap : Nat) :
    (convert 22 9 (.slice (some ⟨w.heap.size, 0, none⟩) ns.length cap)).run Try.prog (w.alloc (.cells (ns.map (Value.int .u8) ++ more).toArray 5)) = .ok (.string ⟨(ns.map fun n => UInt8.ofNat n.toNat).toArray⟩) (w.alloc (.cells (ns.map (Value.int .u8) ++ more).toArray 5)) := by
  apply conv_cells
  intro j v hj
  have hj' := (List.getElem?_eq_some_iff.1 hj).1
  have := World.cell?_alloc_mark w (ns.map (Value.int .u8) ++ more).toArray 5 (0, 0) j
  have ha : (⟨w.heap.size, 0, none⟩ : Addr).add j = ⟨w.heap.size, j, none⟩ := by unfold Addr.add; split <;> simp_all
  rw [ha, this]
  have e : ns[j] = v := by rw [List.getElem?_eq_getElem hj'] at hj; exact Option.some.inj hj
  simp [List.getElem?_append, hj', e]

theorem conv_later (w W : World) (ns : List Int) (more : List Value) (cap : Nat) (hb : Below (w.heap.size + 1) (w.alloc (.cells (ns.map (Value.int .u8) ++ more).toArray 5)) W) :
    (convert 22 9 (.slice (some ⟨w.heap.size, 0, none⟩) ns.length cap)).run Try.prog W = .ok (.string ⟨(ns.map fun n => UInt8.ofNat n.toNat).toArray⟩) W := by
  apply conv_cells
  intro j v hj
  have hj' := (List.getElem?_eq_some_iff.1 hj).1
  have := World.cell?_alloc_mark w (ns.map (Value.int .u8) ++ more).toArray 5 (0, 0) j
  have ha : (⟨w.heap.size, 0, none⟩ : Addr).add j = ⟨w.heap.size, j, none⟩ := by unfold Addr.add; split <;> simp_all
  rw [ha, hb.cell (p := ⟨w.heap.size, j, none⟩) (Nat.lt_succ_self _), this]
  have e : ns[j] = v := by rw [List.getElem?_eq_getElem hj'] at hj; exact Option.some.inj hj
  simp [List.getElem?_append, hj', e]

end Go.Proofs.Ytghhphhnalfjaaa
