/-
  The walk of the law ValueReads.
-/
import Derived.Test.YthiffpdioclnlaaDoorRS
import Derived.Test.YthiffpdioclnlaaDoorLC
set_option linter.unusedSimpArgs false
set_option linter.unusedVariables false
namespace Go.Proofs.YthiffpdioclnlaaDoor
open Go.RowKit

set_option maxHeartbeats 2000000 in
set_option maxRecDepth 100000 in
theorem law_reads (s : ByteArray) (w : World) (hE : Env w) (hs : s.size ≤ maxLen) :
    Calls Tryd.prog 4 #[.string s] w fun e w' => e = .returned (.bool true) ∧ Below w.heap.size w w' := by
  have HAW := fun (W : World) (h : Env W) => hide (awake_any W h)
  have HE := hide hE
  clear hE
  by_cases a2 : (300 : Int) < (s.size : Int)
  · go_enter Tryd.func4, Tryd.ntmps4
    go_wp2_with fail
    refine (unhide (HAW _ HE.out)).mono ?_
    rintro e w1 ⟨rfl, hb1⟩
    have HB1 := hide hb1
    have HE1 := hide (HE.out.on hb1)
    clear hb1
    go_wp2_with fail
    refine (unhide (HAW _ HE1.out)).mono ?_
    rintro e w2 ⟨rfl, hb2⟩
    have HB2 := hide (HB1.out.trans (hb2.mono HB1.out.size))
    clear hb2
    go_wp2
    go_ret
    exact ⟨rfl, HB2.out⟩
  have HRd := fun (W : World) (h : Env W) => read_any s W h (by omega)
  have HRf := fun (W : World) => refRead_any s W (by omega)
  cases hR : readL s.data.toList with
  | none =>
    rw [hR] at HRd HRf
    unfold retR at HRd HRf
    have HD := fun W h => hide (HRd W h)
    have HF := fun W => hide (HRf W)
    clear HRd HRf hR
    go_enter Tryd.func4, Tryd.ntmps4
    go_wp2_with fail
    refine (unhide (HAW _ HE.out)).mono ?_
    rintro e w1 ⟨rfl, hb1⟩
    have HB1 := hide hb1
    have HE1 := hide (HE.out.on hb1)
    clear hb1
    go_wp2_with fail
    refine (unhide (HD _ HE1.out)).mono ?_
    rintro e w2 ⟨rfl, hb2⟩
    have HB2 := hide (HB1.out.trans (hb2.mono HB1.out.size))
    clear hb2
    go_wp2_with fail
    refine (unhide (HF _)).mono ?_
    rintro e w3 ⟨rfl, hb3⟩
    have c0 := hb3.cell (p := ⟨w2.heap.size, 0, none⟩) (by simp)
    have c1 := hb3.cell (p := ⟨w2.heap.size, 1, none⟩) (by simp)
    have c2 := hb3.cell (p := ⟨w2.heap.size, 2, none⟩) (by simp)
    simp at c0 c1 c2
    have hlt : w2.heap.size < w3.heap.size := by have := hb3.size; simp at this; omega
    have HB3 := hide ((HB2.out.alloc HB2.out.size _).trans (hb3.mono (HB2.out.alloc HB2.out.size _).size))
    have Hz3 := HB3.out.size
    clear hb3
    go_wp2
    go_ret
    exact ⟨ret_bool (by simp), HB3.out.alloc Hz3 _⟩
  | some x =>
    obtain ⟨k, n, t, long⟩ := x
    rw [hR] at HRd HRf
    unfold retR at HRd HRf
    simp only at HRd HRf
    have HD := fun W h => hide (HRd W h)
    have HF := fun W => hide (HRf W)
    clear HRd HRf hR
    go_enter Tryd.func4, Tryd.ntmps4
    go_wp2_with fail
    refine (unhide (HAW _ HE.out)).mono ?_
    rintro e w1 ⟨rfl, hb1⟩
    have HB1 := hide hb1
    have HE1 := hide (HE.out.on hb1)
    clear hb1
    go_wp2_with fail
    refine (unhide (HD _ HE1.out)).mono ?_
    rintro e w2 ⟨rfl, hb2⟩
    have HB2 := hide (HB1.out.trans (hb2.mono HB1.out.size))
    clear hb2
    go_wp2_with fail
    refine (unhide (HF _)).mono ?_
    rintro e w3 ⟨rfl, hb3⟩
    have c0 := hb3.cell (p := ⟨w2.heap.size, 0, none⟩) (by simp)
    have c1 := hb3.cell (p := ⟨w2.heap.size, 1, none⟩) (by simp)
    have c2 := hb3.cell (p := ⟨w2.heap.size, 2, none⟩) (by simp)
    simp at c0 c1 c2
    have hlt : w2.heap.size < w3.heap.size := by have := hb3.size; simp at this; omega
    have HB3 := hide ((HB2.out.alloc HB2.out.size _).trans (hb3.mono (HB2.out.alloc HB2.out.size _).size))
    have Hz3 := HB3.out.size
    clear hb3
    go_wp2
    go_ret
    exact ⟨ret_bool (by simp), HB3.out.alloc Hz3 _⟩
end Go.Proofs.YthiffpdioclnlaaDoor
