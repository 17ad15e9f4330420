/- A block that is new, in later worlds. -/
import Derived.Test.YtlambflmabecfaaDoorMark
namespace Go.Proofs.YtlambflmabecfaaDoor
open Go.ChangeShapes Go.WideShapes Go.ChangeAt Go.RowKit Go.Joins Go.Deep
set_option linter.unusedSimpArgs false
set_option linter.unusedVariables false
set_option maxRecDepth 100000
theorem newB {w w1 : World} {t : TypeId} {xs : List Value} (b : Below (w.alloc (.cells xs.toArray t)).heap.size (w.alloc (.cells xs.toArray t)) w1) : Whole w1 w.heap.size t xs :=
  Whole.below (heap_alloc_new w _) b (by rw [World.size_alloc]; omega)
theorem newB2 {w w1 : World} {o : Obj} {t : TypeId} {xs : List Value} (b : Below ((w.alloc (.cells xs.toArray t)).alloc o).heap.size ((w.alloc (.cells xs.toArray t)).alloc o) w1) : Whole w1 w.heap.size t xs :=
  Whole.below (Whole.alloc (heap_alloc_new w _) o) b (by rw [World.size_alloc, World.size_alloc]; omega)
theorem newD {w w1 : World} {t : TypeId} {xs : List Value} (b : Below (w.alloc (.cells xs.toArray t)).drew.heap.size (w.alloc (.cells xs.toArray t)).drew w1) : Whole w1 w.heap.size t xs :=
  Whole.below (w := (w.alloc (.cells xs.toArray t)).drew) (heap_alloc_new w _) b (by show _ < (w.alloc _).heap.size; rw [World.size_alloc]; omega)
theorem newD2 {w w1 : World} {o : Obj} {t : TypeId} {xs : List Value} (b : Below ((w.alloc (.cells xs.toArray t)).alloc o).drew.heap.size ((w.alloc (.cells xs.toArray t)).alloc o).drew w1) : Whole w1 w.heap.size t xs :=
  Whole.below (w := ((w.alloc (.cells xs.toArray t)).alloc o).drew) (Whole.alloc (heap_alloc_new w _) o) b (by show _ < ((w.alloc _).alloc _).heap.size; rw [World.size_alloc, World.size_alloc]; omega)
theorem newW {w : World} {t : TypeId} {xs : List Value} : Whole (w.alloc (.cells xs.toArray t)) w.heap.size t xs := heap_alloc_new w _
theorem newW1 {w : World} {o : Obj} {t : TypeId} {xs : List Value} : Whole ((w.alloc o).alloc (.cells xs.toArray t)) (w.heap.size + 1) t xs := by
  have h := heap_alloc_new (w.alloc o) (.cells xs.toArray t)
  rw [World.size_alloc] at h
  exact h
end Go.Proofs.YtlambflmabecfaaDoor
