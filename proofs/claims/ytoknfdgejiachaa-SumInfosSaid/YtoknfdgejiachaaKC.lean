import Derived.Test.YtoknfdgejiachaaKA
import Derived.Deep.CutRange
import Derived.Deep.WholeRow
import Derived.Laws.EntriesVeiled
import Derived.Laws.Rows
namespace Go.Proofs.Ytoknfdgejiachaa
open Go.RowKit Go.Shelf

/-- The table's cells: of each operator its name, how many, of, makes, way. -/
def TABLE : Array Value := #[.string ⟨#[]⟩, .int .i64 0, .int .i64 0, .int .i64 0, .nilFunc, .string ⟨#[43]⟩, .int .i64 2, .int .i64 2, .int .i64 2, .func (.func 43) #[] #[], .string ⟨#[45]⟩, .int .i64 2, .int .i64 2, .int .i64 2, .func (.func 43) #[] #[], .string ⟨#[42]⟩, .int .i64 2, .int .i64 2, .int .i64 2, .func (.func 43) #[] #[], .string ⟨#[47]⟩, .int .i64 2, .int .i64 2, .int .i64 2, .func (.func 43) #[] #[], .string ⟨#[37]⟩, .int .i64 2, .int .i64 2, .int .i64 2, .func (.func 43) #[] #[], .string ⟨#[124, 124]⟩, .int .i64 2, .int .i64 0, .int .i64 0, .func (.func 44) #[] #[], .string ⟨#[61]⟩, .int .i64 2, .int .i64 0, .int .i64 1, .func (.func 45) #[] #[], .string ⟨#[60, 62]⟩, .int .i64 2, .int .i64 0, .int .i64 1, .func (.func 45) #[] #[], .string ⟨#[60]⟩, .int .i64 2, .int .i64 0, .int .i64 1, .func (.func 45) #[] #[], .string ⟨#[60, 61]⟩, .int .i64 2, .int .i64 0, .int .i64 1, .func (.func 45) #[] #[], .string ⟨#[62]⟩, .int .i64 2, .int .i64 0, .int .i64 1, .func (.func 45) #[] #[], .string ⟨#[62, 61]⟩, .int .i64 2, .int .i64 0, .int .i64 1, .func (.func 45) #[] #[], .string ⟨#[97, 110, 100]⟩, .int .i64 2, .int .i64 1, .int .i64 1, .func (.func 46) #[] #[], .string ⟨#[111, 114]⟩, .int .i64 2, .int .i64 1, .int .i64 1, .func (.func 46) #[] #[], .string ⟨#[45]⟩, .int .i64 1, .int .i64 2, .int .i64 2, .func (.func 43) #[] #[], .string ⟨#[110, 111, 116]⟩, .int .i64 1, .int .i64 1, .int .i64 1, .func (.func 46) #[] #[], .string ⟨#[105, 115, 32, 110, 117, 108, 108]⟩, .int .i64 1, .int .i64 0, .int .i64 1, .func (.func 47) #[] #[], .string ⟨#[105, 115, 32, 110, 111, 116, 32, 110, 117, 108, 108]⟩, .int .i64 1, .int .i64 0, .int .i64 1, .func (.func 47) #[] #[], .string ⟨#[108, 101, 110, 103, 116, 104]⟩, .int .i64 1, .int .i64 0, .int .i64 2, .func (.func 48) #[] #[], .string ⟨#[97, 98, 115]⟩, .int .i64 1, .int .i64 2, .int .i64 2, .func (.func 43) #[] #[]]
set_option maxRecDepth 100000 in
set_option maxHeartbeats 1000000 in
theorem table_any (w : World) :
    Calls Try.prog 22 #[] w fun r w' => r = .returned (.agg TABLE) ∧ w' = w.alloc (.cells TABLE 61) := by
  go_enter Try.func22, Try.ntmps22
  go_wp2_with (first
    | (refine wpList_build rfl 61 _ rfl (by kernel_rfl) ?_)
    | (refine wpList_store_row rfl 61 _ _ rfl w.heap.size TABLE rfl (by kernel_rfl) 61 _ (heap_alloc_last w _) (by kernel_rfl) (by kernel_rfl) (by kernel_rfl) ?_; rw [World.setRow_alloc_new]))
  exact bodyPost_ret (results_cell_row rfl _ _ _ _ _ _ _ rfl (heap_alloc_last w _) Try.underlying61 rfl (by kernel_rfl)) rfl ⟨rfl, rfl⟩
end Go.Proofs.Ytoknfdgejiachaa
