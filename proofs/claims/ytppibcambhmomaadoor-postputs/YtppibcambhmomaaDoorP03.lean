import Derived.Test.YtppibcambhmomaaDoorPp
import Derived.Test.YtppibcambhmomaaDoorP00
import Derived.Test.YtppibcambhmomaaDoorP02
namespace Go.Proofs.YtppibcambhmomaaDoor
open Go.ChangeShapes Go.WideShapes Go.ChangeAt Go.RowKit
set_option maxRecDepth 20000
set_option linter.unusedVariables false
set_option linter.unusedSimpArgs false
def kOk (k : Int) : Bool := decide (1 <= k /\ k <= 11)
def fB (k : Int) : Bool := decide (1 <= k /\ k <= 9)
def fK (k : Int) : Bool := decide (3 <= k /\ k <= 8)
def fU (k : Int) : Bool := decide (6 <= k /\ k <= 8)
def fP (k : Int) : Bool := decide (k = 3 ∨ k = 6)
def fT (k : Int) : Bool := decide (k = 6)
def fS (k : Int) : Bool := decide (k = 7)
def fM (k : Int) : Bool := decide (k = 1 ∨ k = 3 ∨ k = 7 ∨ k = 10)
def fD (k : Int) : Bool := decide (k = 9)
def fcs (k : Int) : Array Value := #[.bool (fB k),.bool (fK k),.bool (fU k),.bool (fP k),.bool (fT k),.bool (fS k),.bool (fM k),.bool (fD k)]
def goz (h g z : Bool) : Bool := if h = true then g else z
set_option maxHeartbeats 8000000 in
theorem fieldsOf_n (k : Int) (w : World) : Calls Tryd.prog 78 #[.int .i64 k] w fun e w' => e = .returned (.tuple #[.agg (fcs k),.bool (kOk k)]) /\ Hid (Below w.heap.size w w') := by
 by_cases h1 : k = 1
 . subst h1
   have FE : Hid (fcs 1 = #[.bool true,.bool false,.bool false,.bool false,.bool false,.bool false,.bool true,.bool false] /\ kOk 1 = true) := ⟨by rfl, by rfl⟩
   rw [FE.out.1, FE.out.2]
   go_enter Tryd.func78, Tryd.ntmps78
   go_wp2
   obtain ⟨g, Hg⟩ := nm (w.heap.size)
   obtain ⟨w1, Hw1⟩ := nm (w.alloc (.cells #[.bool true,.bool false,.bool false,.bool false,.bool false,.bool false,.bool true,.bool false] 122))
   have k1 : w1.heap[g]? = some (.cells #[.bool true,.bool false,.bool false,.bool false,.bool false,.bool false,.bool true,.bool false] 122 (0, 0)) := by rw [<- Hw1.out, <- Hg.out]; exact heap_alloc_new w _
   have b1 : Below w.heap.size w w1 := by rw [<- Hw1.out]; exact alloc1 w _
   rw [Hw1.out, Hg.out]
   have c0 : w1.cell? ⟨g, 0, none⟩ = some (.bool true) := by simp [World.cell?, k1]
   have c1 : w1.cell? ⟨g, 1, none⟩ = some (.bool false) := by simp [World.cell?, k1]
   have c2 : w1.cell? ⟨g, 2, none⟩ = some (.bool false) := by simp [World.cell?, k1]
   have c3 : w1.cell? ⟨g, 3, none⟩ = some (.bool false) := by simp [World.cell?, k1]
   have c4 : w1.cell? ⟨g, 4, none⟩ = some (.bool false) := by simp [World.cell?, k1]
   have c5 : w1.cell? ⟨g, 5, none⟩ = some (.bool false) := by simp [World.cell?, k1]
   have c6 : w1.cell? ⟨g, 6, none⟩ = some (.bool true) := by simp [World.cell?, k1]
   have c7 : w1.cell? ⟨g, 7, none⟩ = some (.bool false) := by simp [World.cell?, k1]
   refine bodyPost_ret (v := .tuple #[.agg #[.bool true,.bool false,.bool false,.bool false,.bool false,.bool false,.bool true,.bool false],.bool true]) (by simp [results, Tryd.results78, go_sem, c0, c1, c2, c3, c4, c5, c6, c7]) rfl ⟨rfl, ?_⟩
   first | exact b1 | (rw [<- Hg.out]; exact b1)
 . skip
   by_cases h2 : k = 2
   . subst h2
     clear h1
     have FE : Hid (fcs 2 = #[.bool true,.bool false,.bool false,.bool false,.bool false,.bool false,.bool false,.bool false] /\ kOk 2 = true) := ⟨by rfl, by rfl⟩
     rw [FE.out.1, FE.out.2]
     go_enter Tryd.func78, Tryd.ntmps78
     go_wp2
     obtain ⟨g, Hg⟩ := nm (w.heap.size)
     obtain ⟨w1, Hw1⟩ := nm (w.alloc (.cells #[.bool true,.bool false,.bool false,.bool false,.bool false,.bool false,.bool false,.bool false] 122))
     have k1 : w1.heap[g]? = some (.cells #[.bool true,.bool false,.bool false,.bool false,.bool false,.bool false,.bool false,.bool false] 122 (0, 0)) := by rw [<- Hw1.out, <- Hg.out]; exact heap_alloc_new w _
     have b1 : Below w.heap.size w w1 := by rw [<- Hw1.out]; exact alloc1 w _
     rw [Hw1.out, Hg.out]
     have c0 : w1.cell? ⟨g, 0, none⟩ = some (.bool true) := by simp [World.cell?, k1]
     have c1 : w1.cell? ⟨g, 1, none⟩ = some (.bool false) := by simp [World.cell?, k1]
     have c2 : w1.cell? ⟨g, 2, none⟩ = some (.bool false) := by simp [World.cell?, k1]
     have c3 : w1.cell? ⟨g, 3, none⟩ = some (.bool false) := by simp [World.cell?, k1]
     have c4 : w1.cell? ⟨g, 4, none⟩ = some (.bool false) := by simp [World.cell?, k1]
     have c5 : w1.cell? ⟨g, 5, none⟩ = some (.bool false) := by simp [World.cell?, k1]
     have c6 : w1.cell? ⟨g, 6, none⟩ = some (.bool false) := by simp [World.cell?, k1]
     have c7 : w1.cell? ⟨g, 7, none⟩ = some (.bool false) := by simp [World.cell?, k1]
     refine bodyPost_ret (v := .tuple #[.agg #[.bool true,.bool false,.bool false,.bool false,.bool false,.bool false,.bool false,.bool false],.bool true]) (by simp [results, Tryd.results78, go_sem, c0, c1, c2, c3, c4, c5, c6, c7]) rfl ⟨rfl, ?_⟩
     first | exact b1 | (rw [<- Hg.out]; exact b1)
   . skip
     by_cases h3 : k = 3
     . subst h3
       clear h1 h2
       have FE : Hid (fcs 3 = #[.bool true,.bool true,.bool false,.bool true,.bool false,.bool false,.bool true,.bool false] /\ kOk 3 = true) := ⟨by rfl, by rfl⟩
       rw [FE.out.1, FE.out.2]
       go_enter Tryd.func78, Tryd.ntmps78
       go_wp2
       obtain ⟨g, Hg⟩ := nm (w.heap.size)
       obtain ⟨w1, Hw1⟩ := nm (w.alloc (.cells #[.bool true,.bool true,.bool false,.bool true,.bool false,.bool false,.bool true,.bool false] 122))
       have k1 : w1.heap[g]? = some (.cells #[.bool true,.bool true,.bool false,.bool true,.bool false,.bool false,.bool true,.bool false] 122 (0, 0)) := by rw [<- Hw1.out, <- Hg.out]; exact heap_alloc_new w _
       have b1 : Below w.heap.size w w1 := by rw [<- Hw1.out]; exact alloc1 w _
       rw [Hw1.out, Hg.out]
       have c0 : w1.cell? ⟨g, 0, none⟩ = some (.bool true) := by simp [World.cell?, k1]
       have c1 : w1.cell? ⟨g, 1, none⟩ = some (.bool true) := by simp [World.cell?, k1]
       have c2 : w1.cell? ⟨g, 2, none⟩ = some (.bool false) := by simp [World.cell?, k1]
       have c3 : w1.cell? ⟨g, 3, none⟩ = some (.bool true) := by simp [World.cell?, k1]
       have c4 : w1.cell? ⟨g, 4, none⟩ = some (.bool false) := by simp [World.cell?, k1]
       have c5 : w1.cell? ⟨g, 5, none⟩ = some (.bool false) := by simp [World.cell?, k1]
       have c6 : w1.cell? ⟨g, 6, none⟩ = some (.bool true) := by simp [World.cell?, k1]
       have c7 : w1.cell? ⟨g, 7, none⟩ = some (.bool false) := by simp [World.cell?, k1]
       refine bodyPost_ret (v := .tuple #[.agg #[.bool true,.bool true,.bool false,.bool true,.bool false,.bool false,.bool true,.bool false],.bool true]) (by simp [results, Tryd.results78, go_sem, c0, c1, c2, c3, c4, c5, c6, c7]) rfl ⟨rfl, ?_⟩
       first | exact b1 | (rw [<- Hg.out]; exact b1)
     . skip
       by_cases h4 : k = 4
       . subst h4
         clear h1 h2 h3
         have FE : Hid (fcs 4 = #[.bool true,.bool true,.bool false,.bool false,.bool false,.bool false,.bool false,.bool false] /\ kOk 4 = true) := ⟨by rfl, by rfl⟩
         rw [FE.out.1, FE.out.2]
         go_enter Tryd.func78, Tryd.ntmps78
         go_wp2
         obtain ⟨g, Hg⟩ := nm (w.heap.size)
         obtain ⟨w1, Hw1⟩ := nm (w.alloc (.cells #[.bool true,.bool true,.bool false,.bool false,.bool false,.bool false,.bool false,.bool false] 122))
         have k1 : w1.heap[g]? = some (.cells #[.bool true,.bool true,.bool false,.bool false,.bool false,.bool false,.bool false,.bool false] 122 (0, 0)) := by rw [<- Hw1.out, <- Hg.out]; exact heap_alloc_new w _
         have b1 : Below w.heap.size w w1 := by rw [<- Hw1.out]; exact alloc1 w _
         rw [Hw1.out, Hg.out]
         have c0 : w1.cell? ⟨g, 0, none⟩ = some (.bool true) := by simp [World.cell?, k1]
         have c1 : w1.cell? ⟨g, 1, none⟩ = some (.bool true) := by simp [World.cell?, k1]
         have c2 : w1.cell? ⟨g, 2, none⟩ = some (.bool false) := by simp [World.cell?, k1]
         have c3 : w1.cell? ⟨g, 3, none⟩ = some (.bool false) := by simp [World.cell?, k1]
         have c4 : w1.cell? ⟨g, 4, none⟩ = some (.bool false) := by simp [World.cell?, k1]
         have c5 : w1.cell? ⟨g, 5, none⟩ = some (.bool false) := by simp [World.cell?, k1]
         have c6 : w1.cell? ⟨g, 6, none⟩ = some (.bool false) := by simp [World.cell?, k1]
         have c7 : w1.cell? ⟨g, 7, none⟩ = some (.bool false) := by simp [World.cell?, k1]
         refine bodyPost_ret (v := .tuple #[.agg #[.bool true,.bool true,.bool false,.bool false,.bool false,.bool false,.bool false,.bool false],.bool true]) (by simp [results, Tryd.results78, go_sem, c0, c1, c2, c3, c4, c5, c6, c7]) rfl ⟨rfl, ?_⟩
         first | exact b1 | (rw [<- Hg.out]; exact b1)
       . skip
         by_cases h5 : k = 5
         . subst h5
           clear h1 h2 h3 h4
           have FE : Hid (fcs 5 = #[.bool true,.bool true,.bool false,.bool false,.bool false,.bool false,.bool false,.bool false] /\ kOk 5 = true) := ⟨by rfl, by rfl⟩
           rw [FE.out.1, FE.out.2]
           go_enter Tryd.func78, Tryd.ntmps78
           go_wp2
           obtain ⟨g, Hg⟩ := nm (w.heap.size)
           obtain ⟨w1, Hw1⟩ := nm (w.alloc (.cells #[.bool true,.bool true,.bool false,.bool false,.bool false,.bool false,.bool false,.bool false] 122))
           have k1 : w1.heap[g]? = some (.cells #[.bool true,.bool true,.bool false,.bool false,.bool false,.bool false,.bool false,.bool false] 122 (0, 0)) := by rw [<- Hw1.out, <- Hg.out]; exact heap_alloc_new w _
           have b1 : Below w.heap.size w w1 := by rw [<- Hw1.out]; exact alloc1 w _
           rw [Hw1.out, Hg.out]
           have c0 : w1.cell? ⟨g, 0, none⟩ = some (.bool true) := by simp [World.cell?, k1]
           have c1 : w1.cell? ⟨g, 1, none⟩ = some (.bool true) := by simp [World.cell?, k1]
           have c2 : w1.cell? ⟨g, 2, none⟩ = some (.bool false) := by simp [World.cell?, k1]
           have c3 : w1.cell? ⟨g, 3, none⟩ = some (.bool false) := by simp [World.cell?, k1]
           have c4 : w1.cell? ⟨g, 4, none⟩ = some (.bool false) := by simp [World.cell?, k1]
           have c5 : w1.cell? ⟨g, 5, none⟩ = some (.bool false) := by simp [World.cell?, k1]
           have c6 : w1.cell? ⟨g, 6, none⟩ = some (.bool false) := by simp [World.cell?, k1]
           have c7 : w1.cell? ⟨g, 7, none⟩ = some (.bool false) := by simp [World.cell?, k1]
           refine bodyPost_ret (v := .tuple #[.agg #[.bool true,.bool true,.bool false,.bool false,.bool false,.bool false,.bool false,.bool false],.bool true]) (by simp [results, Tryd.results78, go_sem, c0, c1, c2, c3, c4, c5, c6, c7]) rfl ⟨rfl, ?_⟩
           first | exact b1 | (rw [<- Hg.out]; exact b1)
         . skip
           by_cases h6 : k = 6
           . subst h6
             clear h1 h2 h3 h4 h5
             have FE : Hid (fcs 6 = #[.bool true,.bool true,.bool true,.bool true,.bool true,.bool false,.bool false,.bool false] /\ kOk 6 = true) := ⟨by rfl, by rfl⟩
             rw [FE.out.1, FE.out.2]
             go_enter Tryd.func78, Tryd.ntmps78
             go_wp2
             obtain ⟨g, Hg⟩ := nm (w.heap.size)
             obtain ⟨w1, Hw1⟩ := nm (w.alloc (.cells #[.bool true,.bool true,.bool true,.bool true,.bool true,.bool false,.bool false,.bool false] 122))
             have k1 : w1.heap[g]? = some (.cells #[.bool true,.bool true,.bool true,.bool true,.bool true,.bool false,.bool false,.bool false] 122 (0, 0)) := by rw [<- Hw1.out, <- Hg.out]; exact heap_alloc_new w _
             have b1 : Below w.heap.size w w1 := by rw [<- Hw1.out]; exact alloc1 w _
             rw [Hw1.out, Hg.out]
             have c0 : w1.cell? ⟨g, 0, none⟩ = some (.bool true) := by simp [World.cell?, k1]
             have c1 : w1.cell? ⟨g, 1, none⟩ = some (.bool true) := by simp [World.cell?, k1]
             have c2 : w1.cell? ⟨g, 2, none⟩ = some (.bool true) := by simp [World.cell?, k1]
             have c3 : w1.cell? ⟨g, 3, none⟩ = some (.bool true) := by simp [World.cell?, k1]
             have c4 : w1.cell? ⟨g, 4, none⟩ = some (.bool true) := by simp [World.cell?, k1]
             have c5 : w1.cell? ⟨g, 5, none⟩ = some (.bool false) := by simp [World.cell?, k1]
             have c6 : w1.cell? ⟨g, 6, none⟩ = some (.bool false) := by simp [World.cell?, k1]
             have c7 : w1.cell? ⟨g, 7, none⟩ = some (.bool false) := by simp [World.cell?, k1]
             refine bodyPost_ret (v := .tuple #[.agg #[.bool true,.bool true,.bool true,.bool true,.bool true,.bool false,.bool false,.bool false],.bool true]) (by simp [results, Tryd.results78, go_sem, c0, c1, c2, c3, c4, c5, c6, c7]) rfl ⟨rfl, ?_⟩
             first | exact b1 | (rw [<- Hg.out]; exact b1)
           . skip
             by_cases h7 : k = 7
             . subst h7
               clear h1 h2 h3 h4 h5 h6
               have FE : Hid (fcs 7 = #[.bool true,.bool true,.bool true,.bool false,.bool false,.bool true,.bool true,.bool false] /\ kOk 7 = true) := ⟨by rfl, by rfl⟩
               rw [FE.out.1, FE.out.2]
               go_enter Tryd.func78, Tryd.ntmps78
               go_wp2
               obtain ⟨g, Hg⟩ := nm (w.heap.size)
               obtain ⟨w1, Hw1⟩ := nm (w.alloc (.cells #[.bool true,.bool true,.bool true,.bool false,.bool false,.bool true,.bool true,.bool false] 122))
               have k1 : w1.heap[g]? = some (.cells #[.bool true,.bool true,.bool true,.bool false,.bool false,.bool true,.bool true,.bool false] 122 (0, 0)) := by rw [<- Hw1.out, <- Hg.out]; exact heap_alloc_new w _
               have b1 : Below w.heap.size w w1 := by rw [<- Hw1.out]; exact alloc1 w _
               rw [Hw1.out, Hg.out]
               have c0 : w1.cell? ⟨g, 0, none⟩ = some (.bool true) := by simp [World.cell?, k1]
               have c1 : w1.cell? ⟨g, 1, none⟩ = some (.bool true) := by simp [World.cell?, k1]
               have c2 : w1.cell? ⟨g, 2, none⟩ = some (.bool true) := by simp [World.cell?, k1]
               have c3 : w1.cell? ⟨g, 3, none⟩ = some (.bool false) := by simp [World.cell?, k1]
               have c4 : w1.cell? ⟨g, 4, none⟩ = some (.bool false) := by simp [World.cell?, k1]
               have c5 : w1.cell? ⟨g, 5, none⟩ = some (.bool true) := by simp [World.cell?, k1]
               have c6 : w1.cell? ⟨g, 6, none⟩ = some (.bool true) := by simp [World.cell?, k1]
               have c7 : w1.cell? ⟨g, 7, none⟩ = some (.bool false) := by simp [World.cell?, k1]
               refine bodyPost_ret (v := .tuple #[.agg #[.bool true,.bool true,.bool true,.bool false,.bool false,.bool true,.bool true,.bool false],.bool true]) (by simp [results, Tryd.results78, go_sem, c0, c1, c2, c3, c4, c5, c6, c7]) rfl ⟨rfl, ?_⟩
               first | exact b1 | (rw [<- Hg.out]; exact b1)
             . skip
               by_cases h8 : k = 8
               . subst h8
                 clear h1 h2 h3 h4 h5 h6 h7
                 have FE : Hid (fcs 8 = #[.bool true,.bool true,.bool true,.bool false,.bool false,.bool false,.bool false,.bool false] /\ kOk 8 = true) := ⟨by rfl, by rfl⟩
                 rw [FE.out.1, FE.out.2]
                 go_enter Tryd.func78, Tryd.ntmps78
                 go_wp2
                 obtain ⟨g, Hg⟩ := nm (w.heap.size)
                 obtain ⟨w1, Hw1⟩ := nm (w.alloc (.cells #[.bool true,.bool true,.bool true,.bool false,.bool false,.bool false,.bool false,.bool false] 122))
                 have k1 : w1.heap[g]? = some (.cells #[.bool true,.bool true,.bool true,.bool false,.bool false,.bool false,.bool false,.bool false] 122 (0, 0)) := by rw [<- Hw1.out, <- Hg.out]; exact heap_alloc_new w _
                 have b1 : Below w.heap.size w w1 := by rw [<- Hw1.out]; exact alloc1 w _
                 rw [Hw1.out, Hg.out]
                 have c0 : w1.cell? ⟨g, 0, none⟩ = some (.bool true) := by simp [World.cell?, k1]
                 have c1 : w1.cell? ⟨g, 1, none⟩ = some (.bool true) := by simp [World.cell?, k1]
                 have c2 : w1.cell? ⟨g, 2, none⟩ = some (.bool true) := by simp [World.cell?, k1]
                 have c3 : w1.cell? ⟨g, 3, none⟩ = some (.bool false) := by simp [World.cell?, k1]
                 have c4 : w1.cell? ⟨g, 4, none⟩ = some (.bool false) := by simp [World.cell?, k1]
                 have c5 : w1.cell? ⟨g, 5, none⟩ = some (.bool false) := by simp [World.cell?, k1]
                 have c6 : w1.cell? ⟨g, 6, none⟩ = some (.bool false) := by simp [World.cell?, k1]
                 have c7 : w1.cell? ⟨g, 7, none⟩ = some (.bool false) := by simp [World.cell?, k1]
                 refine bodyPost_ret (v := .tuple #[.agg #[.bool true,.bool true,.bool true,.bool false,.bool false,.bool false,.bool false,.bool false],.bool true]) (by simp [results, Tryd.results78, go_sem, c0, c1, c2, c3, c4, c5, c6, c7]) rfl ⟨rfl, ?_⟩
                 first | exact b1 | (rw [<- Hg.out]; exact b1)
               . skip
                 by_cases h9 : k = 9
                 . subst h9
                   clear h1 h2 h3 h4 h5 h6 h7 h8
                   have FE : Hid (fcs 9 = #[.bool true,.bool false,.bool false,.bool false,.bool false,.bool false,.bool false,.bool true] /\ kOk 9 = true) := ⟨by rfl, by rfl⟩
                   rw [FE.out.1, FE.out.2]
                   go_enter Tryd.func78, Tryd.ntmps78
                   go_wp2
                   obtain ⟨g, Hg⟩ := nm (w.heap.size)
                   obtain ⟨w1, Hw1⟩ := nm (w.alloc (.cells #[.bool true,.bool false,.bool false,.bool false,.bool false,.bool false,.bool false,.bool true] 122))
                   have k1 : w1.heap[g]? = some (.cells #[.bool true,.bool false,.bool false,.bool false,.bool false,.bool false,.bool false,.bool true] 122 (0, 0)) := by rw [<- Hw1.out, <- Hg.out]; exact heap_alloc_new w _
                   have b1 : Below w.heap.size w w1 := by rw [<- Hw1.out]; exact alloc1 w _
                   rw [Hw1.out, Hg.out]
                   have c0 : w1.cell? ⟨g, 0, none⟩ = some (.bool true) := by simp [World.cell?, k1]
                   have c1 : w1.cell? ⟨g, 1, none⟩ = some (.bool false) := by simp [World.cell?, k1]
                   have c2 : w1.cell? ⟨g, 2, none⟩ = some (.bool false) := by simp [World.cell?, k1]
                   have c3 : w1.cell? ⟨g, 3, none⟩ = some (.bool false) := by simp [World.cell?, k1]
                   have c4 : w1.cell? ⟨g, 4, none⟩ = some (.bool false) := by simp [World.cell?, k1]
                   have c5 : w1.cell? ⟨g, 5, none⟩ = some (.bool false) := by simp [World.cell?, k1]
                   have c6 : w1.cell? ⟨g, 6, none⟩ = some (.bool false) := by simp [World.cell?, k1]
                   have c7 : w1.cell? ⟨g, 7, none⟩ = some (.bool true) := by simp [World.cell?, k1]
                   refine bodyPost_ret (v := .tuple #[.agg #[.bool true,.bool false,.bool false,.bool false,.bool false,.bool false,.bool false,.bool true],.bool true]) (by simp [results, Tryd.results78, go_sem, c0, c1, c2, c3, c4, c5, c6, c7]) rfl ⟨rfl, ?_⟩
                   first | exact b1 | (rw [<- Hg.out]; exact b1)
                 . skip
                   by_cases h10 : k = 10
                   . subst h10
                     clear h1 h2 h3 h4 h5 h6 h7 h8 h9
                     have FE : Hid (fcs 10 = #[.bool false,.bool false,.bool false,.bool false,.bool false,.bool false,.bool true,.bool false] /\ kOk 10 = true) := ⟨by rfl, by rfl⟩
                     rw [FE.out.1, FE.out.2]
                     go_enter Tryd.func78, Tryd.ntmps78
                     go_wp2
                     obtain ⟨g, Hg⟩ := nm (w.heap.size)
                     obtain ⟨w1, Hw1⟩ := nm (w.alloc (.cells #[.bool false,.bool false,.bool false,.bool false,.bool false,.bool false,.bool true,.bool false] 122))
                     have k1 : w1.heap[g]? = some (.cells #[.bool false,.bool false,.bool false,.bool false,.bool false,.bool false,.bool true,.bool false] 122 (0, 0)) := by rw [<- Hw1.out, <- Hg.out]; exact heap_alloc_new w _
                     have b1 : Below w.heap.size w w1 := by rw [<- Hw1.out]; exact alloc1 w _
                     rw [Hw1.out, Hg.out]
                     have c0 : w1.cell? ⟨g, 0, none⟩ = some (.bool false) := by simp [World.cell?, k1]
                     have c1 : w1.cell? ⟨g, 1, none⟩ = some (.bool false) := by simp [World.cell?, k1]
                     have c2 : w1.cell? ⟨g, 2, none⟩ = some (.bool false) := by simp [World.cell?, k1]
                     have c3 : w1.cell? ⟨g, 3, none⟩ = some (.bool false) := by simp [World.cell?, k1]
                     have c4 : w1.cell? ⟨g, 4, none⟩ = some (.bool false) := by simp [World.cell?, k1]
                     have c5 : w1.cell? ⟨g, 5, none⟩ = some (.bool false) := by simp [World.cell?, k1]
                     have c6 : w1.cell? ⟨g, 6, none⟩ = some (.bool true) := by simp [World.cell?, k1]
                     have c7 : w1.cell? ⟨g, 7, none⟩ = some (.bool false) := by simp [World.cell?, k1]
                     refine bodyPost_ret (v := .tuple #[.agg #[.bool false,.bool false,.bool false,.bool false,.bool false,.bool false,.bool true,.bool false],.bool true]) (by simp [results, Tryd.results78, go_sem, c0, c1, c2, c3, c4, c5, c6, c7]) rfl ⟨rfl, ?_⟩
                     first | exact b1 | (rw [<- Hg.out]; exact b1)
                   . skip
                     by_cases h11 : k = 11
                     . subst h11
                       clear h1 h2 h3 h4 h5 h6 h7 h8 h9 h10
                       have FE : Hid (fcs 11 = #[.bool false,.bool false,.bool false,.bool false,.bool false,.bool false,.bool false,.bool false] /\ kOk 11 = true) := ⟨by rfl, by rfl⟩
                       rw [FE.out.1, FE.out.2]
                       go_enter Tryd.func78, Tryd.ntmps78
                       go_wp2
                       obtain ⟨g, Hg⟩ := nm (w.heap.size)
                       obtain ⟨w1, Hw1⟩ := nm (w.alloc (.cells #[.bool false,.bool false,.bool false,.bool false,.bool false,.bool false,.bool false,.bool false] 122))
                       have k1 : w1.heap[g]? = some (.cells #[.bool false,.bool false,.bool false,.bool false,.bool false,.bool false,.bool false,.bool false] 122 (0, 0)) := by rw [<- Hw1.out, <- Hg.out]; exact heap_alloc_new w _
                       have b1 : Below w.heap.size w w1 := by rw [<- Hw1.out]; exact alloc1 w _
                       rw [Hw1.out, Hg.out]
                       have c0 : w1.cell? ⟨g, 0, none⟩ = some (.bool false) := by simp [World.cell?, k1]
                       have c1 : w1.cell? ⟨g, 1, none⟩ = some (.bool false) := by simp [World.cell?, k1]
                       have c2 : w1.cell? ⟨g, 2, none⟩ = some (.bool false) := by simp [World.cell?, k1]
                       have c3 : w1.cell? ⟨g, 3, none⟩ = some (.bool false) := by simp [World.cell?, k1]
                       have c4 : w1.cell? ⟨g, 4, none⟩ = some (.bool false) := by simp [World.cell?, k1]
                       have c5 : w1.cell? ⟨g, 5, none⟩ = some (.bool false) := by simp [World.cell?, k1]
                       have c6 : w1.cell? ⟨g, 6, none⟩ = some (.bool false) := by simp [World.cell?, k1]
                       have c7 : w1.cell? ⟨g, 7, none⟩ = some (.bool false) := by simp [World.cell?, k1]
                       refine bodyPost_ret (v := .tuple #[.agg #[.bool false,.bool false,.bool false,.bool false,.bool false,.bool false,.bool false,.bool false],.bool true]) (by simp [results, Tryd.results78, go_sem, c0, c1, c2, c3, c4, c5, c6, c7]) rfl ⟨rfl, ?_⟩
                       first | exact b1 | (rw [<- Hg.out]; exact b1)
                     . skip
                       have FE : Hid (fcs k = #[.bool false,.bool false,.bool false,.bool false,.bool false,.bool false,.bool false,.bool false] /\ kOk k = false) := by
                        have e0 : fB k = false := decide_eq_false (by omega)
                        have e1 : fK k = false := decide_eq_false (by omega)
                        have e2 : fU k = false := decide_eq_false (by omega)
                        have e3 : fP k = false := decide_eq_false (by omega)
                        have e4 : fT k = false := decide_eq_false (by omega)
                        have e5 : fS k = false := decide_eq_false (by omega)
                        have e6 : fM k = false := decide_eq_false (by omega)
                        have e7 : fD k = false := decide_eq_false (by omega)
                        have e8 : kOk k = false := decide_eq_false (by omega)
                        exact ⟨by unfold fcs; rw [e0, e1, e2, e3, e4, e5, e6, e7], e8⟩
                       rw [FE.out.1, FE.out.2]
                       go_enter Tryd.func78, Tryd.ntmps78
                       go_wp2
                       obtain ⟨g, Hg⟩ := nm (w.heap.size)
                       obtain ⟨w1, Hw1⟩ := nm (w.alloc (.cells #[.bool false,.bool false,.bool false,.bool false,.bool false,.bool false,.bool false,.bool false] 122))
                       have k1 : w1.heap[g]? = some (.cells #[.bool false,.bool false,.bool false,.bool false,.bool false,.bool false,.bool false,.bool false] 122 (0, 0)) := by rw [<- Hw1.out, <- Hg.out]; exact heap_alloc_new w _
                       have b1 : Below w.heap.size w w1 := by rw [<- Hw1.out]; exact alloc1 w _
                       rw [Hw1.out, Hg.out]
                       have c0 : w1.cell? ⟨g, 0, none⟩ = some (.bool false) := by simp [World.cell?, k1]
                       have c1 : w1.cell? ⟨g, 1, none⟩ = some (.bool false) := by simp [World.cell?, k1]
                       have c2 : w1.cell? ⟨g, 2, none⟩ = some (.bool false) := by simp [World.cell?, k1]
                       have c3 : w1.cell? ⟨g, 3, none⟩ = some (.bool false) := by simp [World.cell?, k1]
                       have c4 : w1.cell? ⟨g, 4, none⟩ = some (.bool false) := by simp [World.cell?, k1]
                       have c5 : w1.cell? ⟨g, 5, none⟩ = some (.bool false) := by simp [World.cell?, k1]
                       have c6 : w1.cell? ⟨g, 6, none⟩ = some (.bool false) := by simp [World.cell?, k1]
                       have c7 : w1.cell? ⟨g, 7, none⟩ = some (.bool false) := by simp [World.cell?, k1]
                       refine bodyPost_ret (v := .tuple #[.agg #[.bool false,.bool false,.bool false,.bool false,.bool false,.bool false,.bool false,.bool false],.bool false]) (by simp [results, Tryd.results78, go_sem, c0, c1, c2, c3, c4, c5, c6, c7]) rfl ⟨rfl, ?_⟩
                       first | exact b1 | (rw [<- Hg.out]; exact b1)
theorem goz_n (h g z : Bool) (w : World) : Calls Tryd.prog 79 #[.bool h,.bool g,.bool z] w fun e w' => e = .returned (.bool (goz h g z)) /\ w' = w := by
 cases h with
 | false =>
   go_enter Tryd.func79, Tryd.ntmps79
   go_wp2
   go_ret
   exact ⟨rfl, rfl⟩
 | true =>
   go_enter Tryd.func79, Tryd.ntmps79
   go_wp2
   go_ret
   exact ⟨rfl, rfl⟩
def ptP (n : Int) : Bool := decide (1 <= n /\ n <= 16)
theorem isPart_n (n : Int) (w : World) : Calls Tryd.prog 83 #[.int .i64 n] w fun e w' => e = .returned (.bool (ptP n)) /\ w' = w := by
 by_cases h1 : 1 <= n
 . by_cases h2 : n <= 16
   . have EV : Hid (ptP n = true) := decide_eq_true ⟨h1, h2⟩
     rw [EV.out]
     go_enter Tryd.func83, Tryd.ntmps83
     go_wp2
     go_ret
     exact ⟨rfl, rfl⟩
   . have EV : Hid (ptP n = false) := decide_eq_false (by omega)
     rw [EV.out]
     go_enter Tryd.func83, Tryd.ntmps83
     go_wp2
     go_ret
     exact ⟨rfl, rfl⟩
 . have EV : Hid (ptP n = false) := decide_eq_false (by omega)
   rw [EV.out]
   go_enter Tryd.func83, Tryd.ntmps83
   go_wp2
   go_ret
   exact ⟨rfl, rfl⟩
def gdE (s : ByteArray) : Bool := decide (s.size = 64) && evB dgB s s.size
theorem goodEtag_n (s : ByteArray) (w : World) : Calls Tryd.prog 93 #[.string s] w fun e w' => e = .returned (.bool (gdE s)) /\ w' = w := by
 by_cases h1 : s.size = 64
 . have EV : Hid (gdE s = evB dgB s s.size) := by show gdE s = _; unfold gdE; rw [decide_eq_true h1]; rfl
   have i1 : (s.size : Int) = 64 := by omega
   have hs : s.size <= 281474976710656 := by omega
   rw [EV.out]
   clear h1
   go_enter Tryd.func93, Tryd.ntmps93
   go_wp2_with (go_at_call 89; refine (everyDig_n s hs _).mono ?_; rintro e w0 ⟨rfl, h0⟩; rw [h0]; clear h0)
   go_ret
   exact ⟨rfl, rfl⟩
 . have EV : Hid (gdE s = false) := by show gdE s = _; unfold gdE; rw [decide_eq_false h1]; rfl
   have i1 : ¬ ((s.size : Int) = 64) := by omega
   rw [EV.out]
   clear h1
   go_enter Tryd.func93, Tryd.ntmps93
   go_wp2
   go_ret
   exact ⟨rfl, rfl⟩
def gdP (a b c s : Int) (t : ByteArray) : Bool := gdI a b c && (decide (0 <= s /\ s <= 1024) && gdE t)
theorem goodPiece_n (a b c s : Int) (t : ByteArray) (w : World) : Calls Tryd.prog 82 #[.agg #[.int .i64 a,.int .i64 b,.int .i64 c,.int .i64 s,.string t]] w fun e w' => e = .returned (.bool (gdP a b c s t)) /\ Hid (Below w.heap.size w w') := by
 obtain ⟨g, Hg⟩ := nm (w.heap.size)
 obtain ⟨w1, Hw1⟩ := nm (w.alloc (.cells #[.int .i64 a,.int .i64 b,.int .i64 c,.int .i64 s,.string t] 58))
 have b1 := al1 Hw1
 have k1 : Hid (w1.heap[g]? = some (.cells #[.int .i64 a,.int .i64 b,.int .i64 c,.int .i64 s,.string t] 58 (0, 0))) := by rw [<- Hw1.out, <- Hg.out]; exact heap_alloc_new w _
 have c0 : w1.cell? ⟨g, 0, none⟩ = some (.int .i64 a) := by simp [World.cell?, k1.out]
 have c1 : w1.cell? ⟨g, 1, none⟩ = some (.int .i64 b) := by simp [World.cell?, k1.out]
 have c2 : w1.cell? ⟨g, 2, none⟩ = some (.int .i64 c) := by simp [World.cell?, k1.out]
 go_enter Tryd.func82, Tryd.ntmps82
 go_upto_region 1 with (fail)
 rw [Hw1.out, Hg.out]
 obtain ⟨w2, Hw2⟩ := nm (w1.alloc (.cells #[.int .i64 a,.int .i64 b,.int .i64 c] 23))
 have b2 := al1 Hw2
 have k2 : w2.heap[g]? = some (.cells #[.int .i64 a,.int .i64 b,.int .i64 c,.int .i64 s,.string t] 58 (0, 0)) := (b2.out.block g (gl k1.out)).trans k1.out
 have d3 : w2.cell? ⟨g, 3, none⟩ = some (.int .i64 s) := by simp [World.cell?, k2]
 have d4 : w2.cell? ⟨g, 4, none⟩ = some (.string t) := by simp [World.cell?, k2]
 have BB := bt b1 b2
 clear k2 k1 b1 b2
 obtain ⟨t0, H0⟩ := nm (gdI a b c)
 obtain ⟨t1, H1⟩ := nm (gdE t)
 by_cases h1 : 0 <= s
 . by_cases h2 : s <= 1024
   . have EV : Hid (gdP a b c s t = (t0 && t1)) := by show gdP a b c s t = _; unfold gdP; rw [decide_eq_true ⟨h1, h2⟩, H0.out, H1.out]; rfl
     cases t0 with
     | false =>
       go_wp2_with (go_at_call 30; refine (goodId_n a b c _).mono ?_; rintro e w0 ⟨rfl, h0⟩; rw [h0.out, H0.out, Hw2.out]; clear h0)
       go_ret
       rw [EV.out]
       exact ⟨rfl, BB.out⟩
     | true =>
       go_wp2_with first
        | (go_at_call 30; refine (goodId_n a b c _).mono ?_; rintro e w0 ⟨rfl, h0⟩; rw [h0.out, H0.out, Hw2.out]; clear h0)
        | (go_at_call 93; refine (goodEtag_n t _).mono ?_; rintro e w0 ⟨rfl, h0⟩; rw [h0, H1.out]; clear h0)
       go_ret
       rw [EV.out]
       exact ⟨rfl, BB.out⟩
   . have EV : Hid (gdP a b c s t = false) := by show gdP a b c s t = _; unfold gdP; rw [decide_eq_false (by omega), Bool.false_and, Bool.and_false]
     cases t0 with
     | false =>
       go_wp2_with (go_at_call 30; refine (goodId_n a b c _).mono ?_; rintro e w0 ⟨rfl, h0⟩; rw [h0.out, H0.out, Hw2.out]; clear h0)
       go_ret
       rw [EV.out]
       exact ⟨rfl, BB.out⟩
     | true =>
       go_wp2_with (go_at_call 30; refine (goodId_n a b c _).mono ?_; rintro e w0 ⟨rfl, h0⟩; rw [h0.out, H0.out, Hw2.out]; clear h0)
       go_ret
       rw [EV.out]
       exact ⟨rfl, BB.out⟩
 . have EV : Hid (gdP a b c s t = false) := by show gdP a b c s t = _; unfold gdP; rw [decide_eq_false (by omega), Bool.false_and, Bool.and_false]
   cases t0 with
   | false =>
     go_wp2_with (go_at_call 30; refine (goodId_n a b c _).mono ?_; rintro e w0 ⟨rfl, h0⟩; rw [h0.out, H0.out, Hw2.out]; clear h0)
     go_ret
     rw [EV.out]
     exact ⟨rfl, BB.out⟩
   | true =>
     go_wp2_with (go_at_call 30; refine (goodId_n a b c _).mono ?_; rintro e w0 ⟨rfl, h0⟩; rw [h0.out, H0.out, Hw2.out]; clear h0)
     go_ret
     rw [EV.out]
     exact ⟨rfl, BB.out⟩
def lst (l : List Int) (i : Nat) : Int := match i with | 0 => 0 | i + 1 => l.getD i 0
def rsP (l : List Int) (i : Nat) : Bool := (List.range i).all (fun j => ptP (l.getD j 0) && decide (lst l j < l.getD j 0))
def gdS (l : List Int) : Bool := rsP l l.length && decide (0 < l.length)
theorem rsP_succ (l : List Int) (i : Nat) : rsP l (i + 1) = (rsP l i && (ptP (l.getD i 0) && decide (lst l i < l.getD i 0))) := by simp [rsP, List.range_succ]
theorem rsP_false {l : List Int} {i n : Nat} (hi : i < n) (h : (ptP (l.getD i 0) && decide (lst l i < l.getD i 0)) = false) : rsP l n = false := by
 rw [Bool.eq_false_iff]
 intro e
 have := List.all_eq_true.1 e i (List.mem_range.2 hi)
 rw [h] at this
 cases this
theorem goodParts_n {w : World} {a : Option Addr} {n c : Nat} {l : List Int} (hI : Hid (Irow w 0 a n l)) : Calls Tryd.prog 84 #[.slice a n c] w fun e w' => e = .returned (.bool (gdS l)) /\ w' = w := by
 have hn := hI.out.sz
 have HL : Hid (n = l.length) := hI.out.len
 go_enter Tryd.func84, Tryd.ntmps84
 go_wp2
 go_loop [3, 8] (fun t3 t8 => ∃ i : Nat, i <= n /\ t8 = .int .i64 (i : Int) /\ t3 = .int .i64 (lst l i) /\ Hid (rsP l i = true)) (fun _ t8 => n - (intOf t8).toNat)
 case atStart => exact ⟨0, by omega, rfl, rfl, rfl⟩
 case round =>
  obtain ⟨i, hi, rfl, rfl, HI⟩ := hrel
  by_cases hlt : i < n
  . have i1 : (i : Int) < (n : Int) := by omega
    obtain ⟨tb, tO, rfl, e1⟩ := hI.out.at_ hlt
    obtain ⟨x, Hx⟩ := nm (l.getD i 0)
    obtain ⟨y, Hy⟩ := nm (lst l i)
    have SX : Hid (lst l (i + 1) = x) := Hx.out
    rw [Hx.out] at e1
    rw [Hy.out]
    obtain ⟨b, Hb⟩ := nm (ptP x)
    cases b with
    | false =>
      have FF : Hid (gdS l = false) := by
       show gdS l = false
       unfold gdS
       rw [rsP_false (i := i) (by rw [<- HL.out]; exact hlt) (by rw [Hx.out, Hb.out]; rfl)]
       rfl
      go_wp2_with (go_at_call 83; refine (isPart_n x _).mono ?_; rintro e w0 ⟨rfl, h0⟩; rw [h0, Hb.out]; clear h0)
      go_ret
      rw [FF.out]
      exact ⟨rfl, rfl⟩
    | true =>
      by_cases hxy : x <= y
      . have FF : Hid (gdS l = false) := by
         show gdS l = false
         unfold gdS
         rw [rsP_false (i := i) (by rw [<- HL.out]; exact hlt) (by rw [Hx.out, Hb.out, Hy.out, decide_eq_false (by omega)]; rfl)]
         rfl
        go_wp2_with (go_at_call 83; refine (isPart_n x _).mono ?_; rintro e w0 ⟨rfl, h0⟩; rw [h0, Hb.out]; clear h0)
        go_ret
        rw [FF.out]
        exact ⟨rfl, rfl⟩
      . have ST : Hid (rsP l (i + 1) = true) := by
         show rsP l (i + 1) = true
         rw [rsP_succ, HI.out, Hx.out, Hb.out, Hy.out, decide_eq_true (by omega)]
         rfl
        go_wp2_with (go_at_call 83; refine (isPart_n x _).mono ?_; rintro e w0 ⟨rfl, h0⟩; rw [h0, Hb.out]; clear h0)
        go_round
        case rel => exact ⟨i + 1, by omega, by go_num, by rw [SX.out], ST.out⟩
        case measure => simp [intOf]; omega
  . obtain rfl : i = n := by omega
    have FE : Hid (gdS l = decide (0 < i)) := by
     show gdS l = _
     unfold gdS
     rw [<- HL.out, HI.out, Bool.true_and]
    go_wp2
    go_ret
    rw [FE.out]
    exact ⟨rfl, rfl⟩
end Go.Proofs.YtppibcambhmomaaDoor
