/- Whether sizes are too much. -/
import Derived.Test.YtcibiiddigpnfaaRows
import Derived.Test.YtcibiiddigpnfaaTypMade
import Derived.Test.YtcibiiddigpnfaaGSize
namespace Go.Proofs.Ytcibiiddigpnfaa
set_option maxHeartbeats 1000000
set_option maxRecDepth 100000
open Go.RowKit
theorem made_int (n:Int) (w:World):(bls 45 1 #[(0,.int .i64 n)]).run Try.prog w = .ok (.slice (some ⟨w.heap.size,0,none⟩) 1 1) (w.alloc (.cells #[.int .i64 n] 3)):=bls_of 45 3 1 1 #[(0,.int .i64 n)] #[.int .i64 n] (by kernel_rfl) (by kernel_rfl) (by kernel_rfl) (by omega) (by omega) (by kernel_rfl) (by kernel_rfl) w
theorem beyond_any (b:Nat) (n:Int) (T:TypeId) (fr:Nat × Nat) (w:World) (h0:0≤n) (h1:n≤262145) (h:w.heap[b]? = some (.cells #[.int .i64 n] T fr)) :
    Calls Try.prog 4 #[.slice (some ⟨b,0,none⟩) 1 1] w fun e w'=>e = .returned (.bool (decide (262144 < n)))∧w=w':=by
  have hc:w.cell? ⟨b,0,none⟩ = some (.int .i64 n):=by rw [Lib.cell_of_heap h];rfl
  clear h
  by_cases hn:262144 < n
  · have HD:=Lib.hid (decide_eq_true hn)
    go_enter Try.func4,Try.ntmps4
    go_wp2_with fail
    refine wp_loop_rounds 2 ?_
    rw [rounds_succ]
    go_wp2_with fail
    go_ret
    exact⟨by rw [HD.out];rfl,rfl⟩
  · have HD:=Lib.hid (decide_eq_false hn)
    go_enter Try.func4,Try.ntmps4
    go_wp2_with fail
    refine wp_loop_rounds 2 ?_
    rw [rounds_succ]
    go_wp2_with fail
    rw [rounds_succ]
    go_wp2_with fail
    go_ret
    exact⟨by rw [HD.out];rfl,rfl⟩
end Go.Proofs.Ytcibiiddigpnfaa
