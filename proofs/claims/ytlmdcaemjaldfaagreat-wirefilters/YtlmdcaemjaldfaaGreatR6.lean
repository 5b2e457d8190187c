import Derived.Test.YtlmdcaemjaldfaaGreatR5
import Derived.Test.YtlmdcaemjaldfaaGreatR4
set_option linter.unusedSimpArgs false
set_option linter.unusedVariables false
namespace Go.Proofs.YtlmdcaemjaldfaaGreat
open Go.RowKit
theorem rgs_le {S : SetV} (h : okSt S) (k : Nat) : ((S.ints.take k).flatMap rgB2).length ≤ 120 := by
  have := flat_le rgB2 20 (S.ints.take k) (fun x hx => rgB_le (h.1.2 x (List.mem_of_mem_take hx)))
  have h2 := h.1.1
  rw [List.length_take] at this
  omega
theorem sts_le {S : SetV} (h : okSt S) (k : Nat) : ((S.strs.take k).flatMap stB2).length ≤ 108 := by
  have := flat_le stB2 18 (S.strs.take k) (fun x hx => stB_le (h.2.2 x (List.mem_of_mem_take hx)))
  have h2 := h.2.1
  rw [List.length_take] at this
  omega
theorem set_done {S : SetV} {l : List UInt8} {k : Int} (h : k = flagS S) : l ++ [UInt8.ofNat k.toNat] ++ enc S.ints.length ++ (S.ints.take S.ints.length).flatMap rgB2 ++ enc S.strs.length ++ (S.strs.take S.strs.length).flatMap stB2 = l ++ setB S := by
  subst h
  simp [setB, List.take_length]
set_option maxHeartbeats 8000000 in
set_option maxRecDepth 100000 in
theorem putSet_one (B g : Nat) (S : SetV) (pI pS : Option Addr) (cI cS : Nat) (l : List UInt8) (w : World) (HB : BW w B g l) (hB : B ≤ w.heap.size) (hl : l.length ≤ 900000) (hok : okSt S)
    (hI : ∀ W, PutR B w W → RngsAt W (.slice pI S.ints.length cI) S.ints) (hT : ∀ W, PutR B w W → StrsAt W (.slice pS S.strs.length cS) S.strs) :
    Calls Tryz.prog 65 #[.pointer (some ⟨g, 0, none⟩), .agg #[.bool S.absent, .slice pI S.ints.length cI, .bool S.co, .slice pS S.strs.length cS]] w fun e w' => e = .returned (.tuple #[]) ∧ BW w' B g (l ++ setB S) ∧ PutR B w w' := by
  have D : PutR B w w := PutR.refl _ _
  have h6 := hok.1.1
  have h7 := hok.2.1
  have hen := enc_len_le S.ints.length (by omega)
  have hem := enc_len_le S.strs.length (by omega)
  have hr := rgs_le hok
  have hs := sts_le hok
  go_enter Tryz.func65, Tryz.ntmps65
  refine wp_seq_k (fun K1 hK1 => ?_)
  refine wp_region_lit ?_
  refine wt_boxSt (o := ⟨_, _, _, _, _, _⟩) (by rfl) _ rfl (⟨S.absent, pI, S.ints.length, cI, S.co, pS, S.strs.length, cS⟩) rfl (fun v1 g1 hg G1 kb => ?_)
  simp only [Act.put, lzA, lzB, lzC]
  have ge_g1 : w.heap.size ≤ g1 := Nat.le_trans D.size hg
  clear hg
  replace D := PutR.on hB D kb
  replace HB := HB.on kb
  clear kb
  replace G1 : v1.heap[g1]? = some (.cells #[.bool (S.absent), .slice pI S.ints.length cI, .bool (S.co), .slice pS S.strs.length cS] 25 (0, 0)) := G1
  refine wpList_nil ?_
  refine hK1 _ _ ?_
  clear hK1 K1
  refine wp_seq_k (fun K2 hK2 => ?_)
  refine wp_region_lit ?_
  refine wl_yield (o := ⟨_, _, _, _, _, _⟩) (.int .u8 0) (yl_assign (by rfl) _ rfl _ rfl) ?_
  simp only [Act.put, lzA, lzB, lzC]
  refine wpList_nil ?_
  refine hK2 _ _ ?_
  clear hK2 K2
  refine wp_seq_k (fun K3 hK3 => ?_)
  refine wp_seq_k (fun K4 hK4 => ?_)
  refine wp_region_lit ?_
  refine wl_yield (o := ⟨_, _, _, _, _, _⟩) (.pointer (some ⟨g1, 0, none⟩)) (yt_fSt0 (by rfl) _ rfl g1 0 rfl) ?_
  simp only [Act.put, lzA, lzB, lzC]
  refine wl_yield (o := ⟨_, _, _, _, _, _⟩) (.bool (S.absent)) (yt_ldB (by rfl) _ rfl _ _ rfl S.absent (fun _ h => by subst h; exact cell_heap G1 0)) ?_
  simp only [Act.put, lzA, lzB, lzC]
  refine wpList_nil ?_
  refine hK4 _ _ ?_
  clear hK4 K4
  refine wp_cond_split (t := S.absent) rfl (fun hc => ?_) (fun hc => ?_)
  · have hab : S.absent = true := hc
    clear hc
    refine wp_region_lit ?_
    refine wl_yield (o := ⟨_, _, _, _, _, _⟩) (.int .u8 0) (yl_move (by rfl) _ rfl _ rfl) ?_
    simp only [Act.put, lzA, lzB, lzC]
    refine wl_yield (o := ⟨_, _, _, _, _, _⟩) (.int .u8 1) (yw_orY (by rfl) _ _ _ rfl 0 1 rfl rfl 1 (by decide)) ?_
    simp only [Act.put, lzA, lzB, lzC]
    refine wl_yield (o := ⟨_, _, _, _, _, _⟩) (.int .u8 1) (yl_assign (by rfl) _ rfl _ rfl) ?_
    simp only [Act.put, lzA, lzB, lzC]
    refine wpList_nil ?_
    refine hK3 _ _ ?_
    clear hK3 K3
    refine wp_seq_k (fun K5 hK5 => ?_)
    refine wp_seq_k (fun K6 hK6 => ?_)
    refine wp_region_lit ?_
    refine wl_yield (o := ⟨_, _, _, _, _, _⟩) (.pointer (some ⟨g1, 2, none⟩)) (yt_fSt2 (by rfl) _ rfl g1 0 rfl) ?_
    simp only [Act.put, lzA, lzB, lzC]
    refine wl_yield (o := ⟨_, _, _, _, _, _⟩) (.bool (S.co)) (yt_ldB (by rfl) _ rfl _ _ rfl S.co (fun _ h => by subst h; exact cell_heap G1 2)) ?_
    simp only [Act.put, lzA, lzB, lzC]
    refine wpList_nil ?_
    refine hK6 _ _ ?_
    clear hK6 K6
    refine wp_cond_split (t := S.co) rfl (fun hc => ?_) (fun hc => ?_)
    · have hco : S.co = true := hc
      clear hc
      refine wp_region_lit ?_
      refine wl_yield (o := ⟨_, _, _, _, _, _⟩) (.int .u8 1) (yl_move (by rfl) _ rfl _ rfl) ?_
      simp only [Act.put, lzA, lzB, lzC]
      refine wl_yield (o := ⟨_, _, _, _, _, _⟩) (.int .u8 3) (yw_orY (by rfl) _ _ _ rfl 1 2 rfl rfl 3 (by decide)) ?_
      simp only [Act.put, lzA, lzB, lzC]
      refine wl_yield (o := ⟨_, _, _, _, _, _⟩) (.int .u8 3) (yl_assign (by rfl) _ rfl _ rfl) ?_
      simp only [Act.put, lzA, lzB, lzC]
      refine wpList_nil ?_
      refine hK5 _ _ ?_
      clear hK5 K5
      refine wp_seq_k (fun K7 hK7 => ?_)
      refine wp_region_lit ?_
      refine wl_yield (o := ⟨_, _, _, _, _, _⟩) (.pointer (some ⟨g, 0, none⟩)) (yl_move (by rfl) _ rfl _ rfl) ?_
      simp only [Act.put, lzA, lzB, lzC]
      refine wl_yield (o := ⟨_, _, _, _, _, _⟩) (.int .u8 3) (yl_move (by rfl) _ rfl _ rfl) ?_
      simp only [Act.put, lzA, lzB, lzC]
      refine wt_call (o := ⟨_, _, _, _, _, _⟩) (by rfl) 114 _ _ rfl #[.pointer (some ⟨g, 0, none⟩), .int .u8 3] rfl (run_call Tryz.func114 (by kernel_rfl) (by kernel_rfl)) ?_
      refine (c_writeByte B g _ 3 _ HB (by (try simp only [List.length_append, List.length_cons, List.length_nil]); first | omega | (have q1 := hr k; first | omega | (have q2 := rgB_le (hok.1.2 _ (getD_memA S.ints (0, 0) k hlt)); unfold rgB2 at q2; rw [List.length_append] at q2; omega)) | (have q1 := hr S.ints.length; first | omega | (have q3 := hs k; first | omega | (have q4 := stB_le (hok.2.2 _ (getD_memA S.strs ⟨#[]⟩ k hlt)); omega)) | (have q3 := hs S.strs.length; omega))) (Nat.le_trans hB D.size) (by decide) (by decide)).mono ?_
      rintro r v2 (⟨⟨rv2, rfl⟩, hb, kp⟩)
      · replace G1 := PutR.keep kp G1 (by decide) (by decide)
        replace D := D.trans kp
        replace HB := hb
        clear hb kp
        refine Or.inl ⟨rv2, rfl, ?_⟩
        simp only [Act.put, lzA, lzB, lzC]
        refine wpList_nil ?_
        refine hK7 _ _ ?_
        clear hK7 K7
        refine wp_seq_k (fun K8 hK8 => ?_)
        refine wp_region_lit ?_
        refine wl_yield (o := ⟨_, _, _, _, _, _⟩) (.pointer (some ⟨g, 0, none⟩)) (yl_move (by rfl) _ rfl _ rfl) ?_
        simp only [Act.put, lzA, lzB, lzC]
        refine wl_yield (o := ⟨_, _, _, _, _, _⟩) (.pointer (some ⟨g1, 1, none⟩)) (yt_fSt1 (by rfl) _ rfl g1 0 rfl) ?_
        simp only [Act.put, lzA, lzB, lzC]
        refine wl_yield (o := ⟨_, _, _, _, _, _⟩) (.slice pI S.ints.length cI) (yt_ldLr (by rfl) _ rfl _ _ rfl pI S.ints.length cI (fun _ h => by subst h; exact cell_heap G1 1)) ?_
        simp only [Act.put, lzA, lzB, lzC]
        refine wl_yield (o := ⟨_, _, _, _, _, _⟩) (.int .i64 (S.ints.length : Nat)) (yt_lenR (by rfl) _ rfl pI S.ints.length cI rfl) ?_
        simp only [Act.put, lzA, lzB, lzC]
        refine wt_call (o := ⟨_, _, _, _, _, _⟩) (by rfl) 64 _ _ rfl #[.pointer (some ⟨g, 0, none⟩), .int .i64 (S.ints.length : Nat)] rfl (run_call Tryz.func64 (by kernel_rfl) (by kernel_rfl)) ?_
        refine (putCount_any B g S.ints.length _ _ HB (Nat.le_trans hB D.size) (by (try simp only [List.length_append, List.length_cons, List.length_nil]); first | omega | (have q1 := hr k; first | omega | (have q2 := rgB_le (hok.1.2 _ (getD_memA S.ints (0, 0) k hlt)); unfold rgB2 at q2; rw [List.length_append] at q2; omega)) | (have q1 := hr S.ints.length; first | omega | (have q3 := hs k; first | omega | (have q4 := stB_le (hok.2.2 _ (getD_memA S.strs ⟨#[]⟩ k hlt)); omega)) | (have q3 := hs S.strs.length; omega))) (by omega)).mono ?_
        rintro r v3 (⟨rfl, hb, kp⟩)
        · replace G1 := PutR.keep kp G1 (by decide) (by decide)
          replace D := D.trans kp
          replace HB := hb
          clear hb kp
          refine Or.inl ⟨.tuple #[], rfl, ?_⟩
          simp only [Act.put, lzA, lzB, lzC]
          refine wpList_nil ?_
          refine hK8 _ _ ?_
          clear hK8 K8
          refine wp_seq_k (fun K9 hK9 => ?_)
          refine wp_seq_k (fun K10 hK10 => ?_)
          refine wp_region_lit ?_
          refine wl_yield (o := ⟨_, _, _, _, _, _⟩) (.pointer (some ⟨g1, 1, none⟩)) (yt_fSt1 (by rfl) _ rfl g1 0 rfl) ?_
          simp only [Act.put, lzA, lzB, lzC]
          refine wl_yield (o := ⟨_, _, _, _, _, _⟩) (.slice pI S.ints.length cI) (yt_ldLr (by rfl) _ rfl _ _ rfl pI S.ints.length cI (fun _ h => by subst h; exact cell_heap G1 1)) ?_
          simp only [Act.put, lzA, lzB, lzC]
          refine wl_yield (o := ⟨_, _, _, _, _, _⟩) (.int .i64 (S.ints.length : Nat)) (yt_lenR (by rfl) _ rfl pI S.ints.length cI rfl) ?_
          simp only [Act.put, lzA, lzB, lzC]
          refine wl_yield (o := ⟨_, _, _, _, _, _⟩) (.int .i64 0) (yl_move (by rfl) _ rfl _ rfl) ?_
          simp only [Act.put, lzA, lzB, lzC]
          refine wpList_nil ?_
          refine hK10 _ _ ?_
          clear hK10 K10
          refine wp_block ?_
          go_loopw [28] (fun i wr => ∃ k : Nat, i = .int .i64 k ∧ k ≤ S.ints.length ∧ BW wr B g (l ++ [UInt8.ofNat (3 : Int).toNat] ++ enc S.ints.length ++ (S.ints.take k).flatMap rgB2) ∧ wr.heap[g1]? = some (.cells #[.bool (S.absent), .slice pI S.ints.length cI, .bool (S.co), .slice pS S.strs.length cS] 25 (0, 0)) ∧ PutR B w wr) (fun i _ => S.ints.length - (intOf i).toNat)
          case atStart => exact ⟨0, rfl, Nat.zero_le _, by rw [List.take_zero, List.flatMap_nil, List.append_nil]; exact HB, G1, D⟩
          case round =>
            clear D HB G1
            obtain ⟨k, rfl, hk, HB, G1, D⟩ := hrel
            by_cases hlt : k < S.ints.length
            · obtain ⟨bI, oI, rfl, c0, c1⟩ := rng_cell (hI _ D) k hlt
              refine wp_seq_k (fun K11 hK11 => ?_)
              refine wp_region_lit ?_
              refine wl_yield (o := ⟨_, _, _, _, _, _⟩) (.bool true) (yt_lssI (by rfl) _ _ _ rfl (((k : Nat) : Int)) (((S.ints.length : Nat) : Int)) true rfl rfl (decide_eq_true (by omega))) ?_
              simp only [Act.put, lzA, lzB, lzC]
              refine wpList_nil ?_
              refine hK11 _ _ ?_
              clear hK11 K11
              refine wp_seq_k (fun K12 hK12 => ?_)
              refine wp_cond_true rfl ?_
              refine wp_skip ?_
              refine hK12 _ _ ?_
              clear hK12 K12
              refine wp_seq_k (fun K13 hK13 => ?_)
              refine wp_block ?_
              refine wp_seq_k (fun K14 hK14 => ?_)
              refine wp_region_lit ?_
              refine wl_yield (o := ⟨_, _, _, _, _, _⟩) (.pointer (some ⟨bI, oI + k * 2, none⟩)) (yt_atR (by rfl) _ _ rfl bI oI _ _ k rfl rfl (hlt)) ?_
              simp only [Act.put, lzA, lzB, lzC]
              refine wl_yield (o := ⟨_, _, _, _, _, _⟩) (.agg #[.int .i64 ((S.ints.getD k (0, 0))).1, .int .i64 ((S.ints.getD k (0, 0))).2]) (yt_ldRg (by rfl) _ rfl bI _ rfl (S.ints.getD k (0, 0)).1 (S.ints.getD k (0, 0)).2 (fun _ h => by subst h; exact ⟨c0, c1⟩)) ?_
              simp only [Act.put, lzA, lzB, lzC]
              refine wt_allocRg (o := ⟨_, _, _, _, _, _⟩) (by rfl) rfl (fun v4 g4 hg G4 kb => ?_)
              simp only [Act.put, lzA, lzB, lzC]
              have n_g1_g4 : g1 ≠ g4 := by have := lt_heap G1; omega
              have ge_g4 : w.heap.size ≤ g4 := Nat.le_trans D.size hg
              clear hg
              replace D := PutR.on hB D kb
              replace HB := HB.on kb
              replace G1 := heap_on G1 kb
              clear kb
              replace G4 : v4.heap[g4]? = some (.cells #[.int .i64 0, .int .i64 0] 114 (0, 0)) := G4
              refine wt_putRg (o := ⟨_, _, _, _, _, _⟩) rfl _ _ rfl _ rfl ((S.ints.getD k (0, 0))) rfl G4 rfl (fun v5 X kg => ?_)
              simp only [Act.put, lzA, lzB, lzC]
              replace D := PutR.new hB D ge_g4 kg
              replace HB := BW.gr HB kg G4 (by decide) (by decide)
              replace G1 := heap_gr G1 kg n_g1_g4
              clear kg
              replace G4 : v5.heap[g4]? = some (.cells #[.int .i64 (((S.ints.getD k (0, 0))).1), .int .i64 (((S.ints.getD k (0, 0))).2)] 114 (0, 0)) := X
              clear X
              refine wpList_nil ?_
              refine hK14 _ _ ?_
              clear hK14 K14
              refine wp_seq_k (fun K15 hK15 => ?_)
              refine wp_region_lit ?_
              refine wl_yield (o := ⟨_, _, _, _, _, _⟩) (.pointer (some ⟨g, 0, none⟩)) (yl_move (by rfl) _ rfl _ rfl) ?_
              simp only [Act.put, lzA, lzB, lzC]
              refine wl_yield (o := ⟨_, _, _, _, _, _⟩) (.pointer (some ⟨g4, 0, none⟩)) (yt_fRg0 (by rfl) _ rfl g4 0 rfl) ?_
              simp only [Act.put, lzA, lzB, lzC]
              refine wl_yield (o := ⟨_, _, _, _, _, _⟩) (.int .i64 (((S.ints.getD k (0, 0))).1)) (yt_ldI (by rfl) _ rfl _ _ rfl (((S.ints.getD k (0, 0))).1) (fun _ h => by subst h; exact cell_heap G4 0)) ?_
              simp only [Act.put, lzA, lzB, lzC]
              refine wt_call (o := ⟨_, _, _, _, _, _⟩) (by rfl) 115 _ _ rfl #[.int .i64 (((S.ints.getD k (0, 0))).1)] rfl (run_call Tryz.func115 (by kernel_rfl) (by kernel_rfl)) ?_
              refine (c_int (((S.ints.getD k (0, 0))).1) _ (hok.1.2 _ (getD_memA S.ints (0, 0) k hlt)).1).mono ?_
              rintro r v6 ⟨rfl, kb⟩
              replace D := PutR.on hB D kb
              replace HB := HB.on kb
              replace G1 := heap_on G1 kb
              replace G4 := heap_on G4 kb
              clear kb
              refine Or.inl ⟨.string (bs (enc (zz (((S.ints.getD k (0, 0))).1)))), rfl, ?_⟩
              simp only [Act.put, lzA, lzB, lzC]
              refine wt_call (o := ⟨_, _, _, _, _, _⟩) (by rfl) 112 _ _ rfl #[.pointer (some ⟨g, 0, none⟩), .string (bs (enc (zz (((S.ints.getD k (0, 0))).1))))] rfl (run_call Tryz.func112 (by kernel_rfl) (by kernel_rfl)) ?_
              refine (c_writeString B g _ (enc (zz (((S.ints.getD k (0, 0))).1))) _ HB (by (try simp only [List.length_append, List.length_cons, List.length_nil]); first | omega | (have q1 := hr k; first | omega | (have q2 := rgB_le (hok.1.2 _ (getD_memA S.ints (0, 0) k hlt)); unfold rgB2 at q2; rw [List.length_append] at q2; omega)) | (have q1 := hr S.ints.length; first | omega | (have q3 := hs k; first | omega | (have q4 := stB_le (hok.2.2 _ (getD_memA S.strs ⟨#[]⟩ k hlt)); omega)) | (have q3 := hs S.strs.length; omega))) (Nat.le_trans hB D.size)).mono ?_
              rintro r v7 (⟨⟨rv7, rfl⟩, hb, kp⟩)
              · replace G1 := PutR.keep kp G1 (by decide) (by decide)
                replace G4 := PutR.keep kp G4 (by decide) (by decide)
                replace D := D.trans kp
                replace HB := hb
                clear hb kp
                refine Or.inl ⟨rv7, rfl, ?_⟩
                simp only [Act.put, lzA, lzB, lzC]
                refine wpList_nil ?_
                refine hK15 _ _ ?_
                clear hK15 K15
                refine wp_region_lit ?_
                refine wl_yield (o := ⟨_, _, _, _, _, _⟩) (.pointer (some ⟨g, 0, none⟩)) (yl_move (by rfl) _ rfl _ rfl) ?_
                simp only [Act.put, lzA, lzB, lzC]
                refine wl_yield (o := ⟨_, _, _, _, _, _⟩) (.pointer (some ⟨g4, 1, none⟩)) (yt_fRg1 (by rfl) _ rfl g4 0 rfl) ?_
                simp only [Act.put, lzA, lzB, lzC]
                refine wl_yield (o := ⟨_, _, _, _, _, _⟩) (.int .i64 (((S.ints.getD k (0, 0))).2)) (yt_ldI (by rfl) _ rfl _ _ rfl (((S.ints.getD k (0, 0))).2) (fun _ h => by subst h; exact cell_heap G4 1)) ?_
                simp only [Act.put, lzA, lzB, lzC]
                refine wt_call (o := ⟨_, _, _, _, _, _⟩) (by rfl) 115 _ _ rfl #[.int .i64 (((S.ints.getD k (0, 0))).2)] rfl (run_call Tryz.func115 (by kernel_rfl) (by kernel_rfl)) ?_
                refine (c_int (((S.ints.getD k (0, 0))).2) _ (hok.1.2 _ (getD_memA S.ints (0, 0) k hlt)).2).mono ?_
                rintro r v8 ⟨rfl, kb⟩
                replace D := PutR.on hB D kb
                replace HB := HB.on kb
                replace G1 := heap_on G1 kb
                replace G4 := heap_on G4 kb
                clear kb
                refine Or.inl ⟨.string (bs (enc (zz (((S.ints.getD k (0, 0))).2)))), rfl, ?_⟩
                simp only [Act.put, lzA, lzB, lzC]
                refine wt_call (o := ⟨_, _, _, _, _, _⟩) (by rfl) 112 _ _ rfl #[.pointer (some ⟨g, 0, none⟩), .string (bs (enc (zz (((S.ints.getD k (0, 0))).2))))] rfl (run_call Tryz.func112 (by kernel_rfl) (by kernel_rfl)) ?_
                refine (c_writeString B g _ (enc (zz (((S.ints.getD k (0, 0))).2))) _ HB (by (try simp only [List.length_append, List.length_cons, List.length_nil]); first | omega | (have q1 := hr k; first | omega | (have q2 := rgB_le (hok.1.2 _ (getD_memA S.ints (0, 0) k hlt)); unfold rgB2 at q2; rw [List.length_append] at q2; omega)) | (have q1 := hr S.ints.length; first | omega | (have q3 := hs k; first | omega | (have q4 := stB_le (hok.2.2 _ (getD_memA S.strs ⟨#[]⟩ k hlt)); omega)) | (have q3 := hs S.strs.length; omega))) (Nat.le_trans hB D.size)).mono ?_
                rintro r v9 (⟨⟨rv9, rfl⟩, hb, kp⟩)
                · replace G1 := PutR.keep kp G1 (by decide) (by decide)
                  replace G4 := PutR.keep kp G4 (by decide) (by decide)
                  replace D := D.trans kp
                  replace HB := hb
                  clear hb kp
                  refine Or.inl ⟨rv9, rfl, ?_⟩
                  simp only [Act.put, lzA, lzB, lzC]
                  refine wpList_nil ?_
                  refine hK13 _ _ ?_
                  clear hK13 K13
                  refine wp_region_lit ?_
                  refine wl_yield (o := ⟨_, _, _, _, _, _⟩) (.int .i64 (k + 1 : Nat)) (yt_addI (by rfl) _ _ _ rfl (((k : Nat) : Int)) 1 (((k + 1 : Nat) : Int)) rfl rfl (by omega) (by omega) (by omega)) ?_
                  simp only [Act.put, lzA, lzB, lzC]
                  refine wl_yield (o := ⟨_, _, _, _, _, _⟩) (.int .i64 (k + 1 : Nat)) (yl_move (by rfl) _ rfl _ rfl) ?_
                  simp only [Act.put, lzA, lzB, lzC]
                  refine wpList_nil ?_
                  show _ ∧ _
                  go_roundw
                  case rel => exact ⟨k + 1, rfl, by omega, by rw [take_step rgB2 (0, 0) S.ints k hlt]; first | exact HB | (rw [← List.append_assoc]; exact HB) | (unfold rgB2; rw [← List.append_assoc, ← List.append_assoc]; exact HB), G1, D⟩
                  case measure => simp [intOf]; omega
            · obtain rfl : k = S.ints.length := by omega
              refine wp_seq_k (fun K11 hK11 => ?_)
              refine wp_region_lit ?_
              refine wl_yield (o := ⟨_, _, _, _, _, _⟩) (.bool false) (yt_lssI (by rfl) _ _ _ rfl (((S.ints.length : Nat) : Int)) (((S.ints.length : Nat) : Int)) false rfl rfl (decide_eq_false (by omega))) ?_
              simp only [Act.put, lzA, lzB, lzC]
              refine wpList_nil ?_
              refine hK11 _ _ ?_
              clear hK11 K11
              refine wp_seq_k (fun K12 hK12 => ?_)
              refine wp_cond_false rfl ?_
              refine wp_exit ?_
              refine hK9 _ _ ?_
              clear hK12 K12 hK9 K9
              refine wp_seq_k (fun K13 hK13 => ?_)
              refine wp_region_lit ?_
              refine wl_yield (o := ⟨_, _, _, _, _, _⟩) (.pointer (some ⟨g, 0, none⟩)) (yl_move (by rfl) _ rfl _ rfl) ?_
              simp only [Act.put, lzA, lzB, lzC]
              refine wl_yield (o := ⟨_, _, _, _, _, _⟩) (.pointer (some ⟨g1, 3, none⟩)) (yt_fSt3 (by rfl) _ rfl g1 0 rfl) ?_
              simp only [Act.put, lzA, lzB, lzC]
              refine wl_yield (o := ⟨_, _, _, _, _, _⟩) (.slice pS S.strs.length cS) (yt_ldLs (by rfl) _ rfl _ _ rfl pS S.strs.length cS (fun _ h => by subst h; exact cell_heap G1 3)) ?_
              simp only [Act.put, lzA, lzB, lzC]
              refine wl_yield (o := ⟨_, _, _, _, _, _⟩) (.int .i64 (S.strs.length : Nat)) (yt_lenT (by rfl) _ rfl pS S.strs.length cS rfl) ?_
              simp only [Act.put, lzA, lzB, lzC]
              refine wt_call (o := ⟨_, _, _, _, _, _⟩) (by rfl) 64 _ _ rfl #[.pointer (some ⟨g, 0, none⟩), .int .i64 (S.strs.length : Nat)] rfl (run_call Tryz.func64 (by kernel_rfl) (by kernel_rfl)) ?_
              refine (putCount_any B g S.strs.length _ _ HB (Nat.le_trans hB D.size) (by (try simp only [List.length_append, List.length_cons, List.length_nil]); first | omega | (have q1 := hr k; first | omega | (have q2 := rgB_le (hok.1.2 _ (getD_memA S.ints (0, 0) k hlt)); unfold rgB2 at q2; rw [List.length_append] at q2; omega)) | (have q1 := hr S.ints.length; first | omega | (have q3 := hs k; first | omega | (have q4 := stB_le (hok.2.2 _ (getD_memA S.strs ⟨#[]⟩ k hlt)); omega)) | (have q3 := hs S.strs.length; omega))) (by omega)).mono ?_
              rintro r v4 (⟨rfl, hb, kp⟩)
              · replace G1 := PutR.keep kp G1 (by decide) (by decide)
                replace D := D.trans kp
                replace HB := hb
                clear hb kp
                refine Or.inl ⟨.tuple #[], rfl, ?_⟩
                simp only [Act.put, lzA, lzB, lzC]
                refine wpList_nil ?_
                refine hK13 _ _ ?_
                clear hK13 K13
                refine wp_seq_k (fun K14 hK14 => ?_)
                refine wp_region_lit ?_
                refine wl_yield (o := ⟨_, _, _, _, _, _⟩) (.pointer (some ⟨g1, 3, none⟩)) (yt_fSt3 (by rfl) _ rfl g1 0 rfl) ?_
                simp only [Act.put, lzA, lzB, lzC]
                refine wl_yield (o := ⟨_, _, _, _, _, _⟩) (.slice pS S.strs.length cS) (yt_ldLs (by rfl) _ rfl _ _ rfl pS S.strs.length cS (fun _ h => by subst h; exact cell_heap G1 3)) ?_
                simp only [Act.put, lzA, lzB, lzC]
                refine wl_yield (o := ⟨_, _, _, _, _, _⟩) (.int .i64 (S.strs.length : Nat)) (yt_lenT (by rfl) _ rfl pS S.strs.length cS rfl) ?_
                simp only [Act.put, lzA, lzB, lzC]
                refine wl_yield (o := ⟨_, _, _, _, _, _⟩) (.int .i64 0) (yl_move (by rfl) _ rfl _ rfl) ?_
                simp only [Act.put, lzA, lzB, lzC]
                refine wpList_nil ?_
                refine hK14 _ _ ?_
                clear hK14 K14
                refine wp_block ?_
                go_loopw [51] (fun i wr => ∃ k : Nat, i = .int .i64 k ∧ k ≤ S.strs.length ∧ BW wr B g (l ++ [UInt8.ofNat (3 : Int).toNat] ++ enc S.ints.length ++ (S.ints.take S.ints.length).flatMap rgB2 ++ enc S.strs.length ++ (S.strs.take k).flatMap stB2) ∧ wr.heap[g1]? = some (.cells #[.bool (S.absent), .slice pI S.ints.length cI, .bool (S.co), .slice pS S.strs.length cS] 25 (0, 0)) ∧ PutR B w wr) (fun i _ => S.strs.length - (intOf i).toNat)
                case atStart => exact ⟨0, rfl, Nat.zero_le _, by rw [List.take_zero, List.flatMap_nil, List.append_nil]; exact HB, G1, D⟩
                case round =>
                  clear D HB G1
                  obtain ⟨k, rfl, hk, HB, G1, D⟩ := hrel
                  by_cases hlt : k < S.strs.length
                  · obtain ⟨bS, oS, rfl, c0⟩ := str_cell (hT _ D) k hlt
                    refine wp_seq_k (fun K15 hK15 => ?_)
                    refine wp_region_lit ?_
                    refine wl_yield (o := ⟨_, _, _, _, _, _⟩) (.bool true) (yt_lssI (by rfl) _ _ _ rfl (((k : Nat) : Int)) (((S.strs.length : Nat) : Int)) true rfl rfl (decide_eq_true (by omega))) ?_
                    simp only [Act.put, lzA, lzB, lzC]
                    refine wpList_nil ?_
                    refine hK15 _ _ ?_
                    clear hK15 K15
                    refine wp_seq_k (fun K16 hK16 => ?_)
                    refine wp_cond_true rfl ?_
                    refine wp_skip ?_
                    refine hK16 _ _ ?_
                    clear hK16 K16
                    refine wp_seq_k (fun K17 hK17 => ?_)
                    refine wp_block ?_
                    refine wp_seq_k (fun K18 hK18 => ?_)
                    refine wp_region_lit ?_
                    refine wl_yield (o := ⟨_, _, _, _, _, _⟩) (.pointer (some ⟨bS, oS + k * 1, none⟩)) (yt_atT (by rfl) _ _ rfl bS oS _ _ k rfl rfl (hlt)) ?_
                    simp only [Act.put, lzA, lzB, lzC]
                    refine wl_yield (o := ⟨_, _, _, _, _, _⟩) (.string (S.strs.getD k ⟨#[]⟩)) (yt_ldS (by rfl) _ rfl _ _ rfl (S.strs.getD k ⟨#[]⟩) (fun _ h => by subst h; exact c0)) ?_
                    simp only [Act.put, lzA, lzB, lzC]
                    refine wl_yield (o := ⟨_, _, _, _, _, _⟩) (.string (S.strs.getD k ⟨#[]⟩)) (yl_assign (by rfl) _ rfl _ rfl) ?_
                    simp only [Act.put, lzA, lzB, lzC]
                    refine wpList_nil ?_
                    refine hK18 _ _ ?_
                    clear hK18 K18
                    refine wp_region_lit ?_
                    refine wl_yield (o := ⟨_, _, _, _, _, _⟩) (.pointer (some ⟨g, 0, none⟩)) (yl_move (by rfl) _ rfl _ rfl) ?_
                    simp only [Act.put, lzA, lzB, lzC]
                    refine wl_yield (o := ⟨_, _, _, _, _, _⟩) (.string (S.strs.getD k ⟨#[]⟩)) (yl_move (by rfl) _ rfl _ rfl) ?_
                    simp only [Act.put, lzA, lzB, lzC]
                    refine wt_call (o := ⟨_, _, _, _, _, _⟩) (by rfl) 116 _ _ rfl #[.string (S.strs.getD k ⟨#[]⟩)] rfl (run_call Tryz.func116 (by kernel_rfl) (by kernel_rfl)) ?_
                    refine (c_str ((S.strs.getD k ⟨#[]⟩)) _ (hok.2.2 _ (getD_memA S.strs ⟨#[]⟩ k hlt))).mono ?_
                    rintro r v5 ⟨rfl, kb⟩
                    replace D := PutR.on hB D kb
                    replace HB := HB.on kb
                    replace G1 := heap_on G1 kb
                    clear kb
                    refine Or.inl ⟨.string (bs (stB2 ((S.strs.getD k ⟨#[]⟩)))), rfl, ?_⟩
                    simp only [Act.put, lzA, lzB, lzC]
                    refine wt_call (o := ⟨_, _, _, _, _, _⟩) (by rfl) 112 _ _ rfl #[.pointer (some ⟨g, 0, none⟩), .string (bs (stB2 ((S.strs.getD k ⟨#[]⟩))))] rfl (run_call Tryz.func112 (by kernel_rfl) (by kernel_rfl)) ?_
                    refine (c_writeString B g _ (stB2 ((S.strs.getD k ⟨#[]⟩))) _ HB (by (try simp only [List.length_append, List.length_cons, List.length_nil]); first | omega | (have q1 := hr k; first | omega | (have q2 := rgB_le (hok.1.2 _ (getD_memA S.ints (0, 0) k hlt)); unfold rgB2 at q2; rw [List.length_append] at q2; omega)) | (have q1 := hr S.ints.length; first | omega | (have q3 := hs k; first | omega | (have q4 := stB_le (hok.2.2 _ (getD_memA S.strs ⟨#[]⟩ k hlt)); omega)) | (have q3 := hs S.strs.length; omega))) (Nat.le_trans hB D.size)).mono ?_
                    rintro r v6 (⟨⟨rv6, rfl⟩, hb, kp⟩)
                    · replace G1 := PutR.keep kp G1 (by decide) (by decide)
                      replace D := D.trans kp
                      replace HB := hb
                      clear hb kp
                      refine Or.inl ⟨rv6, rfl, ?_⟩
                      simp only [Act.put, lzA, lzB, lzC]
                      refine wpList_nil ?_
                      refine hK17 _ _ ?_
                      clear hK17 K17
                      refine wp_region_lit ?_
                      refine wl_yield (o := ⟨_, _, _, _, _, _⟩) (.int .i64 (k + 1 : Nat)) (yt_addI (by rfl) _ _ _ rfl (((k : Nat) : Int)) 1 (((k + 1 : Nat) : Int)) rfl rfl (by omega) (by omega) (by omega)) ?_
                      simp only [Act.put, lzA, lzB, lzC]
                      refine wl_yield (o := ⟨_, _, _, _, _, _⟩) (.int .i64 (k + 1 : Nat)) (yl_move (by rfl) _ rfl _ rfl) ?_
                      simp only [Act.put, lzA, lzB, lzC]
                      refine wpList_nil ?_
                      show _ ∧ _
                      go_roundw
                      case rel => exact ⟨k + 1, rfl, by omega, by rw [take_step stB2 ⟨#[]⟩ S.strs k hlt]; first | exact HB | (rw [← List.append_assoc]; exact HB) | (unfold rgB2; rw [← List.append_assoc, ← List.append_assoc]; exact HB), G1, D⟩
                      case measure => simp [intOf]; omega
                  · obtain rfl : k = S.strs.length := by omega
                    refine wp_seq_k (fun K15 hK15 => ?_)
                    refine wp_region_lit ?_
                    refine wl_yield (o := ⟨_, _, _, _, _, _⟩) (.bool false) (yt_lssI (by rfl) _ _ _ rfl (((S.strs.length : Nat) : Int)) (((S.strs.length : Nat) : Int)) false rfl rfl (decide_eq_false (by omega))) ?_
                    simp only [Act.put, lzA, lzB, lzC]
                    refine wpList_nil ?_
                    refine hK15 _ _ ?_
                    clear hK15 K15
                    refine wp_seq_k (fun K16 hK16 => ?_)
                    refine wp_cond_false rfl ?_
                    refine wp_exit ?_
                    simp only [Exit.inBlock, Exit.then, if_true]
                    go_end0
                    exact ⟨rfl, by rw [← set_done (by unfold flagS; rw [hab, hco]; try rfl)]; exact HB, D⟩
    · have hco : S.co = false := hc
      clear hc
      refine wp_skip ?_
      refine hK5 _ _ ?_
      clear hK5 K5
      refine wp_seq_k (fun K7 hK7 => ?_)
      refine wp_region_lit ?_
      refine wl_yield (o := ⟨_, _, _, _, _, _⟩) (.pointer (some ⟨g, 0, none⟩)) (yl_move (by rfl) _ rfl _ rfl) ?_
      simp only [Act.put, lzA, lzB, lzC]
      refine wl_yield (o := ⟨_, _, _, _, _, _⟩) (.int .u8 1) (yl_move (by rfl) _ rfl _ rfl) ?_
      simp only [Act.put, lzA, lzB, lzC]
      refine wt_call (o := ⟨_, _, _, _, _, _⟩) (by rfl) 114 _ _ rfl #[.pointer (some ⟨g, 0, none⟩), .int .u8 1] rfl (run_call Tryz.func114 (by kernel_rfl) (by kernel_rfl)) ?_
      refine (c_writeByte B g _ 1 _ HB (by (try simp only [List.length_append, List.length_cons, List.length_nil]); first | omega | (have q1 := hr k; first | omega | (have q2 := rgB_le (hok.1.2 _ (getD_memA S.ints (0, 0) k hlt)); unfold rgB2 at q2; rw [List.length_append] at q2; omega)) | (have q1 := hr S.ints.length; first | omega | (have q3 := hs k; first | omega | (have q4 := stB_le (hok.2.2 _ (getD_memA S.strs ⟨#[]⟩ k hlt)); omega)) | (have q3 := hs S.strs.length; omega))) (Nat.le_trans hB D.size) (by decide) (by decide)).mono ?_
      rintro r v2 (⟨⟨rv2, rfl⟩, hb, kp⟩)
      · replace G1 := PutR.keep kp G1 (by decide) (by decide)
        replace D := D.trans kp
        replace HB := hb
        clear hb kp
        refine Or.inl ⟨rv2, rfl, ?_⟩
        simp only [Act.put, lzA, lzB, lzC]
        refine wpList_nil ?_
        refine hK7 _ _ ?_
        clear hK7 K7
        refine wp_seq_k (fun K8 hK8 => ?_)
        refine wp_region_lit ?_
        refine wl_yield (o := ⟨_, _, _, _, _, _⟩) (.pointer (some ⟨g, 0, none⟩)) (yl_move (by rfl) _ rfl _ rfl) ?_
        simp only [Act.put, lzA, lzB, lzC]
        refine wl_yield (o := ⟨_, _, _, _, _, _⟩) (.pointer (some ⟨g1, 1, none⟩)) (yt_fSt1 (by rfl) _ rfl g1 0 rfl) ?_
        simp only [Act.put, lzA, lzB, lzC]
        refine wl_yield (o := ⟨_, _, _, _, _, _⟩) (.slice pI S.ints.length cI) (yt_ldLr (by rfl) _ rfl _ _ rfl pI S.ints.length cI (fun _ h => by subst h; exact cell_heap G1 1)) ?_
        simp only [Act.put, lzA, lzB, lzC]
        refine wl_yield (o := ⟨_, _, _, _, _, _⟩) (.int .i64 (S.ints.length : Nat)) (yt_lenR (by rfl) _ rfl pI S.ints.length cI rfl) ?_
        simp only [Act.put, lzA, lzB, lzC]
        refine wt_call (o := ⟨_, _, _, _, _, _⟩) (by rfl) 64 _ _ rfl #[.pointer (some ⟨g, 0, none⟩), .int .i64 (S.ints.length : Nat)] rfl (run_call Tryz.func64 (by kernel_rfl) (by kernel_rfl)) ?_
        refine (putCount_any B g S.ints.length _ _ HB (Nat.le_trans hB D.size) (by (try simp only [List.length_append, List.length_cons, List.length_nil]); first | omega | (have q1 := hr k; first | omega | (have q2 := rgB_le (hok.1.2 _ (getD_memA S.ints (0, 0) k hlt)); unfold rgB2 at q2; rw [List.length_append] at q2; omega)) | (have q1 := hr S.ints.length; first | omega | (have q3 := hs k; first | omega | (have q4 := stB_le (hok.2.2 _ (getD_memA S.strs ⟨#[]⟩ k hlt)); omega)) | (have q3 := hs S.strs.length; omega))) (by omega)).mono ?_
        rintro r v3 (⟨rfl, hb, kp⟩)
        · replace G1 := PutR.keep kp G1 (by decide) (by decide)
          replace D := D.trans kp
          replace HB := hb
          clear hb kp
          refine Or.inl ⟨.tuple #[], rfl, ?_⟩
          simp only [Act.put, lzA, lzB, lzC]
          refine wpList_nil ?_
          refine hK8 _ _ ?_
          clear hK8 K8
          refine wp_seq_k (fun K9 hK9 => ?_)
          refine wp_seq_k (fun K10 hK10 => ?_)
          refine wp_region_lit ?_
          refine wl_yield (o := ⟨_, _, _, _, _, _⟩) (.pointer (some ⟨g1, 1, none⟩)) (yt_fSt1 (by rfl) _ rfl g1 0 rfl) ?_
          simp only [Act.put, lzA, lzB, lzC]
          refine wl_yield (o := ⟨_, _, _, _, _, _⟩) (.slice pI S.ints.length cI) (yt_ldLr (by rfl) _ rfl _ _ rfl pI S.ints.length cI (fun _ h => by subst h; exact cell_heap G1 1)) ?_
          simp only [Act.put, lzA, lzB, lzC]
          refine wl_yield (o := ⟨_, _, _, _, _, _⟩) (.int .i64 (S.ints.length : Nat)) (yt_lenR (by rfl) _ rfl pI S.ints.length cI rfl) ?_
          simp only [Act.put, lzA, lzB, lzC]
          refine wl_yield (o := ⟨_, _, _, _, _, _⟩) (.int .i64 0) (yl_move (by rfl) _ rfl _ rfl) ?_
          simp only [Act.put, lzA, lzB, lzC]
          refine wpList_nil ?_
          refine hK10 _ _ ?_
          clear hK10 K10
          refine wp_block ?_
          go_loopw [28] (fun i wr => ∃ k : Nat, i = .int .i64 k ∧ k ≤ S.ints.length ∧ BW wr B g (l ++ [UInt8.ofNat (1 : Int).toNat] ++ enc S.ints.length ++ (S.ints.take k).flatMap rgB2) ∧ wr.heap[g1]? = some (.cells #[.bool (S.absent), .slice pI S.ints.length cI, .bool (S.co), .slice pS S.strs.length cS] 25 (0, 0)) ∧ PutR B w wr) (fun i _ => S.ints.length - (intOf i).toNat)
          case atStart => exact ⟨0, rfl, Nat.zero_le _, by rw [List.take_zero, List.flatMap_nil, List.append_nil]; exact HB, G1, D⟩
          case round =>
            clear D HB G1
            obtain ⟨k, rfl, hk, HB, G1, D⟩ := hrel
            by_cases hlt : k < S.ints.length
            · obtain ⟨bI, oI, rfl, c0, c1⟩ := rng_cell (hI _ D) k hlt
              refine wp_seq_k (fun K11 hK11 => ?_)
              refine wp_region_lit ?_
              refine wl_yield (o := ⟨_, _, _, _, _, _⟩) (.bool true) (yt_lssI (by rfl) _ _ _ rfl (((k : Nat) : Int)) (((S.ints.length : Nat) : Int)) true rfl rfl (decide_eq_true (by omega))) ?_
              simp only [Act.put, lzA, lzB, lzC]
              refine wpList_nil ?_
              refine hK11 _ _ ?_
              clear hK11 K11
              refine wp_seq_k (fun K12 hK12 => ?_)
              refine wp_cond_true rfl ?_
              refine wp_skip ?_
              refine hK12 _ _ ?_
              clear hK12 K12
              refine wp_seq_k (fun K13 hK13 => ?_)
              refine wp_block ?_
              refine wp_seq_k (fun K14 hK14 => ?_)
              refine wp_region_lit ?_
              refine wl_yield (o := ⟨_, _, _, _, _, _⟩) (.pointer (some ⟨bI, oI + k * 2, none⟩)) (yt_atR (by rfl) _ _ rfl bI oI _ _ k rfl rfl (hlt)) ?_
              simp only [Act.put, lzA, lzB, lzC]
              refine wl_yield (o := ⟨_, _, _, _, _, _⟩) (.agg #[.int .i64 ((S.ints.getD k (0, 0))).1, .int .i64 ((S.ints.getD k (0, 0))).2]) (yt_ldRg (by rfl) _ rfl bI _ rfl (S.ints.getD k (0, 0)).1 (S.ints.getD k (0, 0)).2 (fun _ h => by subst h; exact ⟨c0, c1⟩)) ?_
              simp only [Act.put, lzA, lzB, lzC]
              refine wt_allocRg (o := ⟨_, _, _, _, _, _⟩) (by rfl) rfl (fun v4 g4 hg G4 kb => ?_)
              simp only [Act.put, lzA, lzB, lzC]
              have n_g1_g4 : g1 ≠ g4 := by have := lt_heap G1; omega
              have ge_g4 : w.heap.size ≤ g4 := Nat.le_trans D.size hg
              clear hg
              replace D := PutR.on hB D kb
              replace HB := HB.on kb
              replace G1 := heap_on G1 kb
              clear kb
              replace G4 : v4.heap[g4]? = some (.cells #[.int .i64 0, .int .i64 0] 114 (0, 0)) := G4
              refine wt_putRg (o := ⟨_, _, _, _, _, _⟩) rfl _ _ rfl _ rfl ((S.ints.getD k (0, 0))) rfl G4 rfl (fun v5 X kg => ?_)
              simp only [Act.put, lzA, lzB, lzC]
              replace D := PutR.new hB D ge_g4 kg
              replace HB := BW.gr HB kg G4 (by decide) (by decide)
              replace G1 := heap_gr G1 kg n_g1_g4
              clear kg
              replace G4 : v5.heap[g4]? = some (.cells #[.int .i64 (((S.ints.getD k (0, 0))).1), .int .i64 (((S.ints.getD k (0, 0))).2)] 114 (0, 0)) := X
              clear X
              refine wpList_nil ?_
              refine hK14 _ _ ?_
              clear hK14 K14
              refine wp_seq_k (fun K15 hK15 => ?_)
              refine wp_region_lit ?_
              refine wl_yield (o := ⟨_, _, _, _, _, _⟩) (.pointer (some ⟨g, 0, none⟩)) (yl_move (by rfl) _ rfl _ rfl) ?_
              simp only [Act.put, lzA, lzB, lzC]
              refine wl_yield (o := ⟨_, _, _, _, _, _⟩) (.pointer (some ⟨g4, 0, none⟩)) (yt_fRg0 (by rfl) _ rfl g4 0 rfl) ?_
              simp only [Act.put, lzA, lzB, lzC]
              refine wl_yield (o := ⟨_, _, _, _, _, _⟩) (.int .i64 (((S.ints.getD k (0, 0))).1)) (yt_ldI (by rfl) _ rfl _ _ rfl (((S.ints.getD k (0, 0))).1) (fun _ h => by subst h; exact cell_heap G4 0)) ?_
              simp only [Act.put, lzA, lzB, lzC]
              refine wt_call (o := ⟨_, _, _, _, _, _⟩) (by rfl) 115 _ _ rfl #[.int .i64 (((S.ints.getD k (0, 0))).1)] rfl (run_call Tryz.func115 (by kernel_rfl) (by kernel_rfl)) ?_
              refine (c_int (((S.ints.getD k (0, 0))).1) _ (hok.1.2 _ (getD_memA S.ints (0, 0) k hlt)).1).mono ?_
              rintro r v6 ⟨rfl, kb⟩
              replace D := PutR.on hB D kb
              replace HB := HB.on kb
              replace G1 := heap_on G1 kb
              replace G4 := heap_on G4 kb
              clear kb
              refine Or.inl ⟨.string (bs (enc (zz (((S.ints.getD k (0, 0))).1)))), rfl, ?_⟩
              simp only [Act.put, lzA, lzB, lzC]
              refine wt_call (o := ⟨_, _, _, _, _, _⟩) (by rfl) 112 _ _ rfl #[.pointer (some ⟨g, 0, none⟩), .string (bs (enc (zz (((S.ints.getD k (0, 0))).1))))] rfl (run_call Tryz.func112 (by kernel_rfl) (by kernel_rfl)) ?_
              refine (c_writeString B g _ (enc (zz (((S.ints.getD k (0, 0))).1))) _ HB (by (try simp only [List.length_append, List.length_cons, List.length_nil]); first | omega | (have q1 := hr k; first | omega | (have q2 := rgB_le (hok.1.2 _ (getD_memA S.ints (0, 0) k hlt)); unfold rgB2 at q2; rw [List.length_append] at q2; omega)) | (have q1 := hr S.ints.length; first | omega | (have q3 := hs k; first | omega | (have q4 := stB_le (hok.2.2 _ (getD_memA S.strs ⟨#[]⟩ k hlt)); omega)) | (have q3 := hs S.strs.length; omega))) (Nat.le_trans hB D.size)).mono ?_
              rintro r v7 (⟨⟨rv7, rfl⟩, hb, kp⟩)
              · replace G1 := PutR.keep kp G1 (by decide) (by decide)
                replace G4 := PutR.keep kp G4 (by decide) (by decide)
                replace D := D.trans kp
                replace HB := hb
                clear hb kp
                refine Or.inl ⟨rv7, rfl, ?_⟩
                simp only [Act.put, lzA, lzB, lzC]
                refine wpList_nil ?_
                refine hK15 _ _ ?_
                clear hK15 K15
                refine wp_region_lit ?_
                refine wl_yield (o := ⟨_, _, _, _, _, _⟩) (.pointer (some ⟨g, 0, none⟩)) (yl_move (by rfl) _ rfl _ rfl) ?_
                simp only [Act.put, lzA, lzB, lzC]
                refine wl_yield (o := ⟨_, _, _, _, _, _⟩) (.pointer (some ⟨g4, 1, none⟩)) (yt_fRg1 (by rfl) _ rfl g4 0 rfl) ?_
                simp only [Act.put, lzA, lzB, lzC]
                refine wl_yield (o := ⟨_, _, _, _, _, _⟩) (.int .i64 (((S.ints.getD k (0, 0))).2)) (yt_ldI (by rfl) _ rfl _ _ rfl (((S.ints.getD k (0, 0))).2) (fun _ h => by subst h; exact cell_heap G4 1)) ?_
                simp only [Act.put, lzA, lzB, lzC]
                refine wt_call (o := ⟨_, _, _, _, _, _⟩) (by rfl) 115 _ _ rfl #[.int .i64 (((S.ints.getD k (0, 0))).2)] rfl (run_call Tryz.func115 (by kernel_rfl) (by kernel_rfl)) ?_
                refine (c_int (((S.ints.getD k (0, 0))).2) _ (hok.1.2 _ (getD_memA S.ints (0, 0) k hlt)).2).mono ?_
                rintro r v8 ⟨rfl, kb⟩
                replace D := PutR.on hB D kb
                replace HB := HB.on kb
                replace G1 := heap_on G1 kb
                replace G4 := heap_on G4 kb
                clear kb
                refine Or.inl ⟨.string (bs (enc (zz (((S.ints.getD k (0, 0))).2)))), rfl, ?_⟩
                simp only [Act.put, lzA, lzB, lzC]
                refine wt_call (o := ⟨_, _, _, _, _, _⟩) (by rfl) 112 _ _ rfl #[.pointer (some ⟨g, 0, none⟩), .string (bs (enc (zz (((S.ints.getD k (0, 0))).2))))] rfl (run_call Tryz.func112 (by kernel_rfl) (by kernel_rfl)) ?_
                refine (c_writeString B g _ (enc (zz (((S.ints.getD k (0, 0))).2))) _ HB (by (try simp only [List.length_append, List.length_cons, List.length_nil]); first | omega | (have q1 := hr k; first | omega | (have q2 := rgB_le (hok.1.2 _ (getD_memA S.ints (0, 0) k hlt)); unfold rgB2 at q2; rw [List.length_append] at q2; omega)) | (have q1 := hr S.ints.length; first | omega | (have q3 := hs k; first | omega | (have q4 := stB_le (hok.2.2 _ (getD_memA S.strs ⟨#[]⟩ k hlt)); omega)) | (have q3 := hs S.strs.length; omega))) (Nat.le_trans hB D.size)).mono ?_
                rintro r v9 (⟨⟨rv9, rfl⟩, hb, kp⟩)
                · replace G1 := PutR.keep kp G1 (by decide) (by decide)
                  replace G4 := PutR.keep kp G4 (by decide) (by decide)
                  replace D := D.trans kp
                  replace HB := hb
                  clear hb kp
                  refine Or.inl ⟨rv9, rfl, ?_⟩
                  simp only [Act.put, lzA, lzB, lzC]
                  refine wpList_nil ?_
                  refine hK13 _ _ ?_
                  clear hK13 K13
                  refine wp_region_lit ?_
                  refine wl_yield (o := ⟨_, _, _, _, _, _⟩) (.int .i64 (k + 1 : Nat)) (yt_addI (by rfl) _ _ _ rfl (((k : Nat) : Int)) 1 (((k + 1 : Nat) : Int)) rfl rfl (by omega) (by omega) (by omega)) ?_
                  simp only [Act.put, lzA, lzB, lzC]
                  refine wl_yield (o := ⟨_, _, _, _, _, _⟩) (.int .i64 (k + 1 : Nat)) (yl_move (by rfl) _ rfl _ rfl) ?_
                  simp only [Act.put, lzA, lzB, lzC]
                  refine wpList_nil ?_
                  show _ ∧ _
                  go_roundw
                  case rel => exact ⟨k + 1, rfl, by omega, by rw [take_step rgB2 (0, 0) S.ints k hlt]; first | exact HB | (rw [← List.append_assoc]; exact HB) | (unfold rgB2; rw [← List.append_assoc, ← List.append_assoc]; exact HB), G1, D⟩
                  case measure => simp [intOf]; omega
            · obtain rfl : k = S.ints.length := by omega
              refine wp_seq_k (fun K11 hK11 => ?_)
              refine wp_region_lit ?_
              refine wl_yield (o := ⟨_, _, _, _, _, _⟩) (.bool false) (yt_lssI (by rfl) _ _ _ rfl (((S.ints.length : Nat) : Int)) (((S.ints.length : Nat) : Int)) false rfl rfl (decide_eq_false (by omega))) ?_
              simp only [Act.put, lzA, lzB, lzC]
              refine wpList_nil ?_
              refine hK11 _ _ ?_
              clear hK11 K11
              refine wp_seq_k (fun K12 hK12 => ?_)
              refine wp_cond_false rfl ?_
              refine wp_exit ?_
              refine hK9 _ _ ?_
              clear hK12 K12 hK9 K9
              refine wp_seq_k (fun K13 hK13 => ?_)
              refine wp_region_lit ?_
              refine wl_yield (o := ⟨_, _, _, _, _, _⟩) (.pointer (some ⟨g, 0, none⟩)) (yl_move (by rfl) _ rfl _ rfl) ?_
              simp only [Act.put, lzA, lzB, lzC]
              refine wl_yield (o := ⟨_, _, _, _, _, _⟩) (.pointer (some ⟨g1, 3, none⟩)) (yt_fSt3 (by rfl) _ rfl g1 0 rfl) ?_
              simp only [Act.put, lzA, lzB, lzC]
              refine wl_yield (o := ⟨_, _, _, _, _, _⟩) (.slice pS S.strs.length cS) (yt_ldLs (by rfl) _ rfl _ _ rfl pS S.strs.length cS (fun _ h => by subst h; exact cell_heap G1 3)) ?_
              simp only [Act.put, lzA, lzB, lzC]
              refine wl_yield (o := ⟨_, _, _, _, _, _⟩) (.int .i64 (S.strs.length : Nat)) (yt_lenT (by rfl) _ rfl pS S.strs.length cS rfl) ?_
              simp only [Act.put, lzA, lzB, lzC]
              refine wt_call (o := ⟨_, _, _, _, _, _⟩) (by rfl) 64 _ _ rfl #[.pointer (some ⟨g, 0, none⟩), .int .i64 (S.strs.length : Nat)] rfl (run_call Tryz.func64 (by kernel_rfl) (by kernel_rfl)) ?_
              refine (putCount_any B g S.strs.length _ _ HB (Nat.le_trans hB D.size) (by (try simp only [List.length_append, List.length_cons, List.length_nil]); first | omega | (have q1 := hr k; first | omega | (have q2 := rgB_le (hok.1.2 _ (getD_memA S.ints (0, 0) k hlt)); unfold rgB2 at q2; rw [List.length_append] at q2; omega)) | (have q1 := hr S.ints.length; first | omega | (have q3 := hs k; first | omega | (have q4 := stB_le (hok.2.2 _ (getD_memA S.strs ⟨#[]⟩ k hlt)); omega)) | (have q3 := hs S.strs.length; omega))) (by omega)).mono ?_
              rintro r v4 (⟨rfl, hb, kp⟩)
              · replace G1 := PutR.keep kp G1 (by decide) (by decide)
                replace D := D.trans kp
                replace HB := hb
                clear hb kp
                refine Or.inl ⟨.tuple #[], rfl, ?_⟩
                simp only [Act.put, lzA, lzB, lzC]
                refine wpList_nil ?_
                refine hK13 _ _ ?_
                clear hK13 K13
                refine wp_seq_k (fun K14 hK14 => ?_)
                refine wp_region_lit ?_
                refine wl_yield (o := ⟨_, _, _, _, _, _⟩) (.pointer (some ⟨g1, 3, none⟩)) (yt_fSt3 (by rfl) _ rfl g1 0 rfl) ?_
                simp only [Act.put, lzA, lzB, lzC]
                refine wl_yield (o := ⟨_, _, _, _, _, _⟩) (.slice pS S.strs.length cS) (yt_ldLs (by rfl) _ rfl _ _ rfl pS S.strs.length cS (fun _ h => by subst h; exact cell_heap G1 3)) ?_
                simp only [Act.put, lzA, lzB, lzC]
                refine wl_yield (o := ⟨_, _, _, _, _, _⟩) (.int .i64 (S.strs.length : Nat)) (yt_lenT (by rfl) _ rfl pS S.strs.length cS rfl) ?_
                simp only [Act.put, lzA, lzB, lzC]
                refine wl_yield (o := ⟨_, _, _, _, _, _⟩) (.int .i64 0) (yl_move (by rfl) _ rfl _ rfl) ?_
                simp only [Act.put, lzA, lzB, lzC]
                refine wpList_nil ?_
                refine hK14 _ _ ?_
                clear hK14 K14
                refine wp_block ?_
                go_loopw [51] (fun i wr => ∃ k : Nat, i = .int .i64 k ∧ k ≤ S.strs.length ∧ BW wr B g (l ++ [UInt8.ofNat (1 : Int).toNat] ++ enc S.ints.length ++ (S.ints.take S.ints.length).flatMap rgB2 ++ enc S.strs.length ++ (S.strs.take k).flatMap stB2) ∧ wr.heap[g1]? = some (.cells #[.bool (S.absent), .slice pI S.ints.length cI, .bool (S.co), .slice pS S.strs.length cS] 25 (0, 0)) ∧ PutR B w wr) (fun i _ => S.strs.length - (intOf i).toNat)
                case atStart => exact ⟨0, rfl, Nat.zero_le _, by rw [List.take_zero, List.flatMap_nil, List.append_nil]; exact HB, G1, D⟩
                case round =>
                  clear D HB G1
                  obtain ⟨k, rfl, hk, HB, G1, D⟩ := hrel
                  by_cases hlt : k < S.strs.length
                  · obtain ⟨bS, oS, rfl, c0⟩ := str_cell (hT _ D) k hlt
                    refine wp_seq_k (fun K15 hK15 => ?_)
                    refine wp_region_lit ?_
                    refine wl_yield (o := ⟨_, _, _, _, _, _⟩) (.bool true) (yt_lssI (by rfl) _ _ _ rfl (((k : Nat) : Int)) (((S.strs.length : Nat) : Int)) true rfl rfl (decide_eq_true (by omega))) ?_
                    simp only [Act.put, lzA, lzB, lzC]
                    refine wpList_nil ?_
                    refine hK15 _ _ ?_
                    clear hK15 K15
                    refine wp_seq_k (fun K16 hK16 => ?_)
                    refine wp_cond_true rfl ?_
                    refine wp_skip ?_
                    refine hK16 _ _ ?_
                    clear hK16 K16
                    refine wp_seq_k (fun K17 hK17 => ?_)
                    refine wp_block ?_
                    refine wp_seq_k (fun K18 hK18 => ?_)
                    refine wp_region_lit ?_
                    refine wl_yield (o := ⟨_, _, _, _, _, _⟩) (.pointer (some ⟨bS, oS + k * 1, none⟩)) (yt_atT (by rfl) _ _ rfl bS oS _ _ k rfl rfl (hlt)) ?_
                    simp only [Act.put, lzA, lzB, lzC]
                    refine wl_yield (o := ⟨_, _, _, _, _, _⟩) (.string (S.strs.getD k ⟨#[]⟩)) (yt_ldS (by rfl) _ rfl _ _ rfl (S.strs.getD k ⟨#[]⟩) (fun _ h => by subst h; exact c0)) ?_
                    simp only [Act.put, lzA, lzB, lzC]
                    refine wl_yield (o := ⟨_, _, _, _, _, _⟩) (.string (S.strs.getD k ⟨#[]⟩)) (yl_assign (by rfl) _ rfl _ rfl) ?_
                    simp only [Act.put, lzA, lzB, lzC]
                    refine wpList_nil ?_
                    refine hK18 _ _ ?_
                    clear hK18 K18
                    refine wp_region_lit ?_
                    refine wl_yield (o := ⟨_, _, _, _, _, _⟩) (.pointer (some ⟨g, 0, none⟩)) (yl_move (by rfl) _ rfl _ rfl) ?_
                    simp only [Act.put, lzA, lzB, lzC]
                    refine wl_yield (o := ⟨_, _, _, _, _, _⟩) (.string (S.strs.getD k ⟨#[]⟩)) (yl_move (by rfl) _ rfl _ rfl) ?_
                    simp only [Act.put, lzA, lzB, lzC]
                    refine wt_call (o := ⟨_, _, _, _, _, _⟩) (by rfl) 116 _ _ rfl #[.string (S.strs.getD k ⟨#[]⟩)] rfl (run_call Tryz.func116 (by kernel_rfl) (by kernel_rfl)) ?_
                    refine (c_str ((S.strs.getD k ⟨#[]⟩)) _ (hok.2.2 _ (getD_memA S.strs ⟨#[]⟩ k hlt))).mono ?_
                    rintro r v5 ⟨rfl, kb⟩
                    replace D := PutR.on hB D kb
                    replace HB := HB.on kb
                    replace G1 := heap_on G1 kb
                    clear kb
                    refine Or.inl ⟨.string (bs (stB2 ((S.strs.getD k ⟨#[]⟩)))), rfl, ?_⟩
                    simp only [Act.put, lzA, lzB, lzC]
                    refine wt_call (o := ⟨_, _, _, _, _, _⟩) (by rfl) 112 _ _ rfl #[.pointer (some ⟨g, 0, none⟩), .string (bs (stB2 ((S.strs.getD k ⟨#[]⟩))))] rfl (run_call Tryz.func112 (by kernel_rfl) (by kernel_rfl)) ?_
                    refine (c_writeString B g _ (stB2 ((S.strs.getD k ⟨#[]⟩))) _ HB (by (try simp only [List.length_append, List.length_cons, List.length_nil]); first | omega | (have q1 := hr k; first | omega | (have q2 := rgB_le (hok.1.2 _ (getD_memA S.ints (0, 0) k hlt)); unfold rgB2 at q2; rw [List.length_append] at q2; omega)) | (have q1 := hr S.ints.length; first | omega | (have q3 := hs k; first | omega | (have q4 := stB_le (hok.2.2 _ (getD_memA S.strs ⟨#[]⟩ k hlt)); omega)) | (have q3 := hs S.strs.length; omega))) (Nat.le_trans hB D.size)).mono ?_
                    rintro r v6 (⟨⟨rv6, rfl⟩, hb, kp⟩)
                    · replace G1 := PutR.keep kp G1 (by decide) (by decide)
                      replace D := D.trans kp
                      replace HB := hb
                      clear hb kp
                      refine Or.inl ⟨rv6, rfl, ?_⟩
                      simp only [Act.put, lzA, lzB, lzC]
                      refine wpList_nil ?_
                      refine hK17 _ _ ?_
                      clear hK17 K17
                      refine wp_region_lit ?_
                      refine wl_yield (o := ⟨_, _, _, _, _, _⟩) (.int .i64 (k + 1 : Nat)) (yt_addI (by rfl) _ _ _ rfl (((k : Nat) : Int)) 1 (((k + 1 : Nat) : Int)) rfl rfl (by omega) (by omega) (by omega)) ?_
                      simp only [Act.put, lzA, lzB, lzC]
                      refine wl_yield (o := ⟨_, _, _, _, _, _⟩) (.int .i64 (k + 1 : Nat)) (yl_move (by rfl) _ rfl _ rfl) ?_
                      simp only [Act.put, lzA, lzB, lzC]
                      refine wpList_nil ?_
                      show _ ∧ _
                      go_roundw
                      case rel => exact ⟨k + 1, rfl, by omega, by rw [take_step stB2 ⟨#[]⟩ S.strs k hlt]; first | exact HB | (rw [← List.append_assoc]; exact HB) | (unfold rgB2; rw [← List.append_assoc, ← List.append_assoc]; exact HB), G1, D⟩
                      case measure => simp [intOf]; omega
                  · obtain rfl : k = S.strs.length := by omega
                    refine wp_seq_k (fun K15 hK15 => ?_)
                    refine wp_region_lit ?_
                    refine wl_yield (o := ⟨_, _, _, _, _, _⟩) (.bool false) (yt_lssI (by rfl) _ _ _ rfl (((S.strs.length : Nat) : Int)) (((S.strs.length : Nat) : Int)) false rfl rfl (decide_eq_false (by omega))) ?_
                    simp only [Act.put, lzA, lzB, lzC]
                    refine wpList_nil ?_
                    refine hK15 _ _ ?_
                    clear hK15 K15
                    refine wp_seq_k (fun K16 hK16 => ?_)
                    refine wp_cond_false rfl ?_
                    refine wp_exit ?_
                    simp only [Exit.inBlock, Exit.then, if_true]
                    go_end0
                    exact ⟨rfl, by rw [← set_done (by unfold flagS; rw [hab, hco]; try rfl)]; exact HB, D⟩
  · have hab : S.absent = false := hc
    clear hc
    refine wp_skip ?_
    refine hK3 _ _ ?_
    clear hK3 K3
    refine wp_seq_k (fun K5 hK5 => ?_)
    refine wp_seq_k (fun K6 hK6 => ?_)
    refine wp_region_lit ?_
    refine wl_yield (o := ⟨_, _, _, _, _, _⟩) (.pointer (some ⟨g1, 2, none⟩)) (yt_fSt2 (by rfl) _ rfl g1 0 rfl) ?_
    simp only [Act.put, lzA, lzB, lzC]
    refine wl_yield (o := ⟨_, _, _, _, _, _⟩) (.bool (S.co)) (yt_ldB (by rfl) _ rfl _ _ rfl S.co (fun _ h => by subst h; exact cell_heap G1 2)) ?_
    simp only [Act.put, lzA, lzB, lzC]
    refine wpList_nil ?_
    refine hK6 _ _ ?_
    clear hK6 K6
    refine wp_cond_split (t := S.co) rfl (fun hc => ?_) (fun hc => ?_)
    · have hco : S.co = true := hc
      clear hc
      refine wp_region_lit ?_
      refine wl_yield (o := ⟨_, _, _, _, _, _⟩) (.int .u8 0) (yl_move (by rfl) _ rfl _ rfl) ?_
      simp only [Act.put, lzA, lzB, lzC]
      refine wl_yield (o := ⟨_, _, _, _, _, _⟩) (.int .u8 2) (yw_orY (by rfl) _ _ _ rfl 0 2 rfl rfl 2 (by decide)) ?_
      simp only [Act.put, lzA, lzB, lzC]
      refine wl_yield (o := ⟨_, _, _, _, _, _⟩) (.int .u8 2) (yl_assign (by rfl) _ rfl _ rfl) ?_
      simp only [Act.put, lzA, lzB, lzC]
      refine wpList_nil ?_
      refine hK5 _ _ ?_
      clear hK5 K5
      refine wp_seq_k (fun K7 hK7 => ?_)
      refine wp_region_lit ?_
      refine wl_yield (o := ⟨_, _, _, _, _, _⟩) (.pointer (some ⟨g, 0, none⟩)) (yl_move (by rfl) _ rfl _ rfl) ?_
      simp only [Act.put, lzA, lzB, lzC]
      refine wl_yield (o := ⟨_, _, _, _, _, _⟩) (.int .u8 2) (yl_move (by rfl) _ rfl _ rfl) ?_
      simp only [Act.put, lzA, lzB, lzC]
      refine wt_call (o := ⟨_, _, _, _, _, _⟩) (by rfl) 114 _ _ rfl #[.pointer (some ⟨g, 0, none⟩), .int .u8 2] rfl (run_call Tryz.func114 (by kernel_rfl) (by kernel_rfl)) ?_
      refine (c_writeByte B g _ 2 _ HB (by (try simp only [List.length_append, List.length_cons, List.length_nil]); first | omega | (have q1 := hr k; first | omega | (have q2 := rgB_le (hok.1.2 _ (getD_memA S.ints (0, 0) k hlt)); unfold rgB2 at q2; rw [List.length_append] at q2; omega)) | (have q1 := hr S.ints.length; first | omega | (have q3 := hs k; first | omega | (have q4 := stB_le (hok.2.2 _ (getD_memA S.strs ⟨#[]⟩ k hlt)); omega)) | (have q3 := hs S.strs.length; omega))) (Nat.le_trans hB D.size) (by decide) (by decide)).mono ?_
      rintro r v2 (⟨⟨rv2, rfl⟩, hb, kp⟩)
      · replace G1 := PutR.keep kp G1 (by decide) (by decide)
        replace D := D.trans kp
        replace HB := hb
        clear hb kp
        refine Or.inl ⟨rv2, rfl, ?_⟩
        simp only [Act.put, lzA, lzB, lzC]
        refine wpList_nil ?_
        refine hK7 _ _ ?_
        clear hK7 K7
        refine wp_seq_k (fun K8 hK8 => ?_)
        refine wp_region_lit ?_
        refine wl_yield (o := ⟨_, _, _, _, _, _⟩) (.pointer (some ⟨g, 0, none⟩)) (yl_move (by rfl) _ rfl _ rfl) ?_
        simp only [Act.put, lzA, lzB, lzC]
        refine wl_yield (o := ⟨_, _, _, _, _, _⟩) (.pointer (some ⟨g1, 1, none⟩)) (yt_fSt1 (by rfl) _ rfl g1 0 rfl) ?_
        simp only [Act.put, lzA, lzB, lzC]
        refine wl_yield (o := ⟨_, _, _, _, _, _⟩) (.slice pI S.ints.length cI) (yt_ldLr (by rfl) _ rfl _ _ rfl pI S.ints.length cI (fun _ h => by subst h; exact cell_heap G1 1)) ?_
        simp only [Act.put, lzA, lzB, lzC]
        refine wl_yield (o := ⟨_, _, _, _, _, _⟩) (.int .i64 (S.ints.length : Nat)) (yt_lenR (by rfl) _ rfl pI S.ints.length cI rfl) ?_
        simp only [Act.put, lzA, lzB, lzC]
        refine wt_call (o := ⟨_, _, _, _, _, _⟩) (by rfl) 64 _ _ rfl #[.pointer (some ⟨g, 0, none⟩), .int .i64 (S.ints.length : Nat)] rfl (run_call Tryz.func64 (by kernel_rfl) (by kernel_rfl)) ?_
        refine (putCount_any B g S.ints.length _ _ HB (Nat.le_trans hB D.size) (by (try simp only [List.length_append, List.length_cons, List.length_nil]); first | omega | (have q1 := hr k; first | omega | (have q2 := rgB_le (hok.1.2 _ (getD_memA S.ints (0, 0) k hlt)); unfold rgB2 at q2; rw [List.length_append] at q2; omega)) | (have q1 := hr S.ints.length; first | omega | (have q3 := hs k; first | omega | (have q4 := stB_le (hok.2.2 _ (getD_memA S.strs ⟨#[]⟩ k hlt)); omega)) | (have q3 := hs S.strs.length; omega))) (by omega)).mono ?_
        rintro r v3 (⟨rfl, hb, kp⟩)
        · replace G1 := PutR.keep kp G1 (by decide) (by decide)
          replace D := D.trans kp
          replace HB := hb
          clear hb kp
          refine Or.inl ⟨.tuple #[], rfl, ?_⟩
          simp only [Act.put, lzA, lzB, lzC]
          refine wpList_nil ?_
          refine hK8 _ _ ?_
          clear hK8 K8
          refine wp_seq_k (fun K9 hK9 => ?_)
          refine wp_seq_k (fun K10 hK10 => ?_)
          refine wp_region_lit ?_
          refine wl_yield (o := ⟨_, _, _, _, _, _⟩) (.pointer (some ⟨g1, 1, none⟩)) (yt_fSt1 (by rfl) _ rfl g1 0 rfl) ?_
          simp only [Act.put, lzA, lzB, lzC]
          refine wl_yield (o := ⟨_, _, _, _, _, _⟩) (.slice pI S.ints.length cI) (yt_ldLr (by rfl) _ rfl _ _ rfl pI S.ints.length cI (fun _ h => by subst h; exact cell_heap G1 1)) ?_
          simp only [Act.put, lzA, lzB, lzC]
          refine wl_yield (o := ⟨_, _, _, _, _, _⟩) (.int .i64 (S.ints.length : Nat)) (yt_lenR (by rfl) _ rfl pI S.ints.length cI rfl) ?_
          simp only [Act.put, lzA, lzB, lzC]
          refine wl_yield (o := ⟨_, _, _, _, _, _⟩) (.int .i64 0) (yl_move (by rfl) _ rfl _ rfl) ?_
          simp only [Act.put, lzA, lzB, lzC]
          refine wpList_nil ?_
          refine hK10 _ _ ?_
          clear hK10 K10
          refine wp_block ?_
          go_loopw [28] (fun i wr => ∃ k : Nat, i = .int .i64 k ∧ k ≤ S.ints.length ∧ BW wr B g (l ++ [UInt8.ofNat (2 : Int).toNat] ++ enc S.ints.length ++ (S.ints.take k).flatMap rgB2) ∧ wr.heap[g1]? = some (.cells #[.bool (S.absent), .slice pI S.ints.length cI, .bool (S.co), .slice pS S.strs.length cS] 25 (0, 0)) ∧ PutR B w wr) (fun i _ => S.ints.length - (intOf i).toNat)
          case atStart => exact ⟨0, rfl, Nat.zero_le _, by rw [List.take_zero, List.flatMap_nil, List.append_nil]; exact HB, G1, D⟩
          case round =>
            clear D HB G1
            obtain ⟨k, rfl, hk, HB, G1, D⟩ := hrel
            by_cases hlt : k < S.ints.length
            · obtain ⟨bI, oI, rfl, c0, c1⟩ := rng_cell (hI _ D) k hlt
              refine wp_seq_k (fun K11 hK11 => ?_)
              refine wp_region_lit ?_
              refine wl_yield (o := ⟨_, _, _, _, _, _⟩) (.bool true) (yt_lssI (by rfl) _ _ _ rfl (((k : Nat) : Int)) (((S.ints.length : Nat) : Int)) true rfl rfl (decide_eq_true (by omega))) ?_
              simp only [Act.put, lzA, lzB, lzC]
              refine wpList_nil ?_
              refine hK11 _ _ ?_
              clear hK11 K11
              refine wp_seq_k (fun K12 hK12 => ?_)
              refine wp_cond_true rfl ?_
              refine wp_skip ?_
              refine hK12 _ _ ?_
              clear hK12 K12
              refine wp_seq_k (fun K13 hK13 => ?_)
              refine wp_block ?_
              refine wp_seq_k (fun K14 hK14 => ?_)
              refine wp_region_lit ?_
              refine wl_yield (o := ⟨_, _, _, _, _, _⟩) (.pointer (some ⟨bI, oI + k * 2, none⟩)) (yt_atR (by rfl) _ _ rfl bI oI _ _ k rfl rfl (hlt)) ?_
              simp only [Act.put, lzA, lzB, lzC]
              refine wl_yield (o := ⟨_, _, _, _, _, _⟩) (.agg #[.int .i64 ((S.ints.getD k (0, 0))).1, .int .i64 ((S.ints.getD k (0, 0))).2]) (yt_ldRg (by rfl) _ rfl bI _ rfl (S.ints.getD k (0, 0)).1 (S.ints.getD k (0, 0)).2 (fun _ h => by subst h; exact ⟨c0, c1⟩)) ?_
              simp only [Act.put, lzA, lzB, lzC]
              refine wt_allocRg (o := ⟨_, _, _, _, _, _⟩) (by rfl) rfl (fun v4 g4 hg G4 kb => ?_)
              simp only [Act.put, lzA, lzB, lzC]
              have n_g1_g4 : g1 ≠ g4 := by have := lt_heap G1; omega
              have ge_g4 : w.heap.size ≤ g4 := Nat.le_trans D.size hg
              clear hg
              replace D := PutR.on hB D kb
              replace HB := HB.on kb
              replace G1 := heap_on G1 kb
              clear kb
              replace G4 : v4.heap[g4]? = some (.cells #[.int .i64 0, .int .i64 0] 114 (0, 0)) := G4
              refine wt_putRg (o := ⟨_, _, _, _, _, _⟩) rfl _ _ rfl _ rfl ((S.ints.getD k (0, 0))) rfl G4 rfl (fun v5 X kg => ?_)
              simp only [Act.put, lzA, lzB, lzC]
              replace D := PutR.new hB D ge_g4 kg
              replace HB := BW.gr HB kg G4 (by decide) (by decide)
              replace G1 := heap_gr G1 kg n_g1_g4
              clear kg
              replace G4 : v5.heap[g4]? = some (.cells #[.int .i64 (((S.ints.getD k (0, 0))).1), .int .i64 (((S.ints.getD k (0, 0))).2)] 114 (0, 0)) := X
              clear X
              refine wpList_nil ?_
              refine hK14 _ _ ?_
              clear hK14 K14
              refine wp_seq_k (fun K15 hK15 => ?_)
              refine wp_region_lit ?_
              refine wl_yield (o := ⟨_, _, _, _, _, _⟩) (.pointer (some ⟨g, 0, none⟩)) (yl_move (by rfl) _ rfl _ rfl) ?_
              simp only [Act.put, lzA, lzB, lzC]
              refine wl_yield (o := ⟨_, _, _, _, _, _⟩) (.pointer (some ⟨g4, 0, none⟩)) (yt_fRg0 (by rfl) _ rfl g4 0 rfl) ?_
              simp only [Act.put, lzA, lzB, lzC]
              refine wl_yield (o := ⟨_, _, _, _, _, _⟩) (.int .i64 (((S.ints.getD k (0, 0))).1)) (yt_ldI (by rfl) _ rfl _ _ rfl (((S.ints.getD k (0, 0))).1) (fun _ h => by subst h; exact cell_heap G4 0)) ?_
              simp only [Act.put, lzA, lzB, lzC]
              refine wt_call (o := ⟨_, _, _, _, _, _⟩) (by rfl) 115 _ _ rfl #[.int .i64 (((S.ints.getD k (0, 0))).1)] rfl (run_call Tryz.func115 (by kernel_rfl) (by kernel_rfl)) ?_
              refine (c_int (((S.ints.getD k (0, 0))).1) _ (hok.1.2 _ (getD_memA S.ints (0, 0) k hlt)).1).mono ?_
              rintro r v6 ⟨rfl, kb⟩
              replace D := PutR.on hB D kb
              replace HB := HB.on kb
              replace G1 := heap_on G1 kb
              replace G4 := heap_on G4 kb
              clear kb
              refine Or.inl ⟨.string (bs (enc (zz (((S.ints.getD k (0, 0))).1)))), rfl, ?_⟩
              simp only [Act.put, lzA, lzB, lzC]
              refine wt_call (o := ⟨_, _, _, _, _, _⟩) (by rfl) 112 _ _ rfl #[.pointer (some ⟨g, 0, none⟩), .string (bs (enc (zz (((S.ints.getD k (0, 0))).1))))] rfl (run_call Tryz.func112 (by kernel_rfl) (by kernel_rfl)) ?_
              refine (c_writeString B g _ (enc (zz (((S.ints.getD k (0, 0))).1))) _ HB (by (try simp only [List.length_append, List.length_cons, List.length_nil]); first | omega | (have q1 := hr k; first | omega | (have q2 := rgB_le (hok.1.2 _ (getD_memA S.ints (0, 0) k hlt)); unfold rgB2 at q2; rw [List.length_append] at q2; omega)) | (have q1 := hr S.ints.length; first | omega | (have q3 := hs k; first | omega | (have q4 := stB_le (hok.2.2 _ (getD_memA S.strs ⟨#[]⟩ k hlt)); omega)) | (have q3 := hs S.strs.length; omega))) (Nat.le_trans hB D.size)).mono ?_
              rintro r v7 (⟨⟨rv7, rfl⟩, hb, kp⟩)
              · replace G1 := PutR.keep kp G1 (by decide) (by decide)
                replace G4 := PutR.keep kp G4 (by decide) (by decide)
                replace D := D.trans kp
                replace HB := hb
                clear hb kp
                refine Or.inl ⟨rv7, rfl, ?_⟩
                simp only [Act.put, lzA, lzB, lzC]
                refine wpList_nil ?_
                refine hK15 _ _ ?_
                clear hK15 K15
                refine wp_region_lit ?_
                refine wl_yield (o := ⟨_, _, _, _, _, _⟩) (.pointer (some ⟨g, 0, none⟩)) (yl_move (by rfl) _ rfl _ rfl) ?_
                simp only [Act.put, lzA, lzB, lzC]
                refine wl_yield (o := ⟨_, _, _, _, _, _⟩) (.pointer (some ⟨g4, 1, none⟩)) (yt_fRg1 (by rfl) _ rfl g4 0 rfl) ?_
                simp only [Act.put, lzA, lzB, lzC]
                refine wl_yield (o := ⟨_, _, _, _, _, _⟩) (.int .i64 (((S.ints.getD k (0, 0))).2)) (yt_ldI (by rfl) _ rfl _ _ rfl (((S.ints.getD k (0, 0))).2) (fun _ h => by subst h; exact cell_heap G4 1)) ?_
                simp only [Act.put, lzA, lzB, lzC]
                refine wt_call (o := ⟨_, _, _, _, _, _⟩) (by rfl) 115 _ _ rfl #[.int .i64 (((S.ints.getD k (0, 0))).2)] rfl (run_call Tryz.func115 (by kernel_rfl) (by kernel_rfl)) ?_
                refine (c_int (((S.ints.getD k (0, 0))).2) _ (hok.1.2 _ (getD_memA S.ints (0, 0) k hlt)).2).mono ?_
                rintro r v8 ⟨rfl, kb⟩
                replace D := PutR.on hB D kb
                replace HB := HB.on kb
                replace G1 := heap_on G1 kb
                replace G4 := heap_on G4 kb
                clear kb
                refine Or.inl ⟨.string (bs (enc (zz (((S.ints.getD k (0, 0))).2)))), rfl, ?_⟩
                simp only [Act.put, lzA, lzB, lzC]
                refine wt_call (o := ⟨_, _, _, _, _, _⟩) (by rfl) 112 _ _ rfl #[.pointer (some ⟨g, 0, none⟩), .string (bs (enc (zz (((S.ints.getD k (0, 0))).2))))] rfl (run_call Tryz.func112 (by kernel_rfl) (by kernel_rfl)) ?_
                refine (c_writeString B g _ (enc (zz (((S.ints.getD k (0, 0))).2))) _ HB (by (try simp only [List.length_append, List.length_cons, List.length_nil]); first | omega | (have q1 := hr k; first | omega | (have q2 := rgB_le (hok.1.2 _ (getD_memA S.ints (0, 0) k hlt)); unfold rgB2 at q2; rw [List.length_append] at q2; omega)) | (have q1 := hr S.ints.length; first | omega | (have q3 := hs k; first | omega | (have q4 := stB_le (hok.2.2 _ (getD_memA S.strs ⟨#[]⟩ k hlt)); omega)) | (have q3 := hs S.strs.length; omega))) (Nat.le_trans hB D.size)).mono ?_
                rintro r v9 (⟨⟨rv9, rfl⟩, hb, kp⟩)
                · replace G1 := PutR.keep kp G1 (by decide) (by decide)
                  replace G4 := PutR.keep kp G4 (by decide) (by decide)
                  replace D := D.trans kp
                  replace HB := hb
                  clear hb kp
                  refine Or.inl ⟨rv9, rfl, ?_⟩
                  simp only [Act.put, lzA, lzB, lzC]
                  refine wpList_nil ?_
                  refine hK13 _ _ ?_
                  clear hK13 K13
                  refine wp_region_lit ?_
                  refine wl_yield (o := ⟨_, _, _, _, _, _⟩) (.int .i64 (k + 1 : Nat)) (yt_addI (by rfl) _ _ _ rfl (((k : Nat) : Int)) 1 (((k + 1 : Nat) : Int)) rfl rfl (by omega) (by omega) (by omega)) ?_
                  simp only [Act.put, lzA, lzB, lzC]
                  refine wl_yield (o := ⟨_, _, _, _, _, _⟩) (.int .i64 (k + 1 : Nat)) (yl_move (by rfl) _ rfl _ rfl) ?_
                  simp only [Act.put, lzA, lzB, lzC]
                  refine wpList_nil ?_
                  show _ ∧ _
                  go_roundw
                  case rel => exact ⟨k + 1, rfl, by omega, by rw [take_step rgB2 (0, 0) S.ints k hlt]; first | exact HB | (rw [← List.append_assoc]; exact HB) | (unfold rgB2; rw [← List.append_assoc, ← List.append_assoc]; exact HB), G1, D⟩
                  case measure => simp [intOf]; omega
            · obtain rfl : k = S.ints.length := by omega
              refine wp_seq_k (fun K11 hK11 => ?_)
              refine wp_region_lit ?_
              refine wl_yield (o := ⟨_, _, _, _, _, _⟩) (.bool false) (yt_lssI (by rfl) _ _ _ rfl (((S.ints.length : Nat) : Int)) (((S.ints.length : Nat) : Int)) false rfl rfl (decide_eq_false (by omega))) ?_
              simp only [Act.put, lzA, lzB, lzC]
              refine wpList_nil ?_
              refine hK11 _ _ ?_
              clear hK11 K11
              refine wp_seq_k (fun K12 hK12 => ?_)
              refine wp_cond_false rfl ?_
              refine wp_exit ?_
              refine hK9 _ _ ?_
              clear hK12 K12 hK9 K9
              refine wp_seq_k (fun K13 hK13 => ?_)
              refine wp_region_lit ?_
              refine wl_yield (o := ⟨_, _, _, _, _, _⟩) (.pointer (some ⟨g, 0, none⟩)) (yl_move (by rfl) _ rfl _ rfl) ?_
              simp only [Act.put, lzA, lzB, lzC]
              refine wl_yield (o := ⟨_, _, _, _, _, _⟩) (.pointer (some ⟨g1, 3, none⟩)) (yt_fSt3 (by rfl) _ rfl g1 0 rfl) ?_
              simp only [Act.put, lzA, lzB, lzC]
              refine wl_yield (o := ⟨_, _, _, _, _, _⟩) (.slice pS S.strs.length cS) (yt_ldLs (by rfl) _ rfl _ _ rfl pS S.strs.length cS (fun _ h => by subst h; exact cell_heap G1 3)) ?_
              simp only [Act.put, lzA, lzB, lzC]
              refine wl_yield (o := ⟨_, _, _, _, _, _⟩) (.int .i64 (S.strs.length : Nat)) (yt_lenT (by rfl) _ rfl pS S.strs.length cS rfl) ?_
              simp only [Act.put, lzA, lzB, lzC]
              refine wt_call (o := ⟨_, _, _, _, _, _⟩) (by rfl) 64 _ _ rfl #[.pointer (some ⟨g, 0, none⟩), .int .i64 (S.strs.length : Nat)] rfl (run_call Tryz.func64 (by kernel_rfl) (by kernel_rfl)) ?_
              refine (putCount_any B g S.strs.length _ _ HB (Nat.le_trans hB D.size) (by (try simp only [List.length_append, List.length_cons, List.length_nil]); first | omega | (have q1 := hr k; first | omega | (have q2 := rgB_le (hok.1.2 _ (getD_memA S.ints (0, 0) k hlt)); unfold rgB2 at q2; rw [List.length_append] at q2; omega)) | (have q1 := hr S.ints.length; first | omega | (have q3 := hs k; first | omega | (have q4 := stB_le (hok.2.2 _ (getD_memA S.strs ⟨#[]⟩ k hlt)); omega)) | (have q3 := hs S.strs.length; omega))) (by omega)).mono ?_
              rintro r v4 (⟨rfl, hb, kp⟩)
              · replace G1 := PutR.keep kp G1 (by decide) (by decide)
                replace D := D.trans kp
                replace HB := hb
                clear hb kp
                refine Or.inl ⟨.tuple #[], rfl, ?_⟩
                simp only [Act.put, lzA, lzB, lzC]
                refine wpList_nil ?_
                refine hK13 _ _ ?_
                clear hK13 K13
                refine wp_seq_k (fun K14 hK14 => ?_)
                refine wp_region_lit ?_
                refine wl_yield (o := ⟨_, _, _, _, _, _⟩) (.pointer (some ⟨g1, 3, none⟩)) (yt_fSt3 (by rfl) _ rfl g1 0 rfl) ?_
                simp only [Act.put, lzA, lzB, lzC]
                refine wl_yield (o := ⟨_, _, _, _, _, _⟩) (.slice pS S.strs.length cS) (yt_ldLs (by rfl) _ rfl _ _ rfl pS S.strs.length cS (fun _ h => by subst h; exact cell_heap G1 3)) ?_
                simp only [Act.put, lzA, lzB, lzC]
                refine wl_yield (o := ⟨_, _, _, _, _, _⟩) (.int .i64 (S.strs.length : Nat)) (yt_lenT (by rfl) _ rfl pS S.strs.length cS rfl) ?_
                simp only [Act.put, lzA, lzB, lzC]
                refine wl_yield (o := ⟨_, _, _, _, _, _⟩) (.int .i64 0) (yl_move (by rfl) _ rfl _ rfl) ?_
                simp only [Act.put, lzA, lzB, lzC]
                refine wpList_nil ?_
                refine hK14 _ _ ?_
                clear hK14 K14
                refine wp_block ?_
                go_loopw [51] (fun i wr => ∃ k : Nat, i = .int .i64 k ∧ k ≤ S.strs.length ∧ BW wr B g (l ++ [UInt8.ofNat (2 : Int).toNat] ++ enc S.ints.length ++ (S.ints.take S.ints.length).flatMap rgB2 ++ enc S.strs.length ++ (S.strs.take k).flatMap stB2) ∧ wr.heap[g1]? = some (.cells #[.bool (S.absent), .slice pI S.ints.length cI, .bool (S.co), .slice pS S.strs.length cS] 25 (0, 0)) ∧ PutR B w wr) (fun i _ => S.strs.length - (intOf i).toNat)
                case atStart => exact ⟨0, rfl, Nat.zero_le _, by rw [List.take_zero, List.flatMap_nil, List.append_nil]; exact HB, G1, D⟩
                case round =>
                  clear D HB G1
                  obtain ⟨k, rfl, hk, HB, G1, D⟩ := hrel
                  by_cases hlt : k < S.strs.length
                  · obtain ⟨bS, oS, rfl, c0⟩ := str_cell (hT _ D) k hlt
                    refine wp_seq_k (fun K15 hK15 => ?_)
                    refine wp_region_lit ?_
                    refine wl_yield (o := ⟨_, _, _, _, _, _⟩) (.bool true) (yt_lssI (by rfl) _ _ _ rfl (((k : Nat) : Int)) (((S.strs.length : Nat) : Int)) true rfl rfl (decide_eq_true (by omega))) ?_
                    simp only [Act.put, lzA, lzB, lzC]
                    refine wpList_nil ?_
                    refine hK15 _ _ ?_
                    clear hK15 K15
                    refine wp_seq_k (fun K16 hK16 => ?_)
                    refine wp_cond_true rfl ?_
                    refine wp_skip ?_
                    refine hK16 _ _ ?_
                    clear hK16 K16
                    refine wp_seq_k (fun K17 hK17 => ?_)
                    refine wp_block ?_
                    refine wp_seq_k (fun K18 hK18 => ?_)
                    refine wp_region_lit ?_
                    refine wl_yield (o := ⟨_, _, _, _, _, _⟩) (.pointer (some ⟨bS, oS + k * 1, none⟩)) (yt_atT (by rfl) _ _ rfl bS oS _ _ k rfl rfl (hlt)) ?_
                    simp only [Act.put, lzA, lzB, lzC]
                    refine wl_yield (o := ⟨_, _, _, _, _, _⟩) (.string (S.strs.getD k ⟨#[]⟩)) (yt_ldS (by rfl) _ rfl _ _ rfl (S.strs.getD k ⟨#[]⟩) (fun _ h => by subst h; exact c0)) ?_
                    simp only [Act.put, lzA, lzB, lzC]
                    refine wl_yield (o := ⟨_, _, _, _, _, _⟩) (.string (S.strs.getD k ⟨#[]⟩)) (yl_assign (by rfl) _ rfl _ rfl) ?_
                    simp only [Act.put, lzA, lzB, lzC]
                    refine wpList_nil ?_
                    refine hK18 _ _ ?_
                    clear hK18 K18
                    refine wp_region_lit ?_
                    refine wl_yield (o := ⟨_, _, _, _, _, _⟩) (.pointer (some ⟨g, 0, none⟩)) (yl_move (by rfl) _ rfl _ rfl) ?_
                    simp only [Act.put, lzA, lzB, lzC]
                    refine wl_yield (o := ⟨_, _, _, _, _, _⟩) (.string (S.strs.getD k ⟨#[]⟩)) (yl_move (by rfl) _ rfl _ rfl) ?_
                    simp only [Act.put, lzA, lzB, lzC]
                    refine wt_call (o := ⟨_, _, _, _, _, _⟩) (by rfl) 116 _ _ rfl #[.string (S.strs.getD k ⟨#[]⟩)] rfl (run_call Tryz.func116 (by kernel_rfl) (by kernel_rfl)) ?_
                    refine (c_str ((S.strs.getD k ⟨#[]⟩)) _ (hok.2.2 _ (getD_memA S.strs ⟨#[]⟩ k hlt))).mono ?_
                    rintro r v5 ⟨rfl, kb⟩
                    replace D := PutR.on hB D kb
                    replace HB := HB.on kb
                    replace G1 := heap_on G1 kb
                    clear kb
                    refine Or.inl ⟨.string (bs (stB2 ((S.strs.getD k ⟨#[]⟩)))), rfl, ?_⟩
                    simp only [Act.put, lzA, lzB, lzC]
                    refine wt_call (o := ⟨_, _, _, _, _, _⟩) (by rfl) 112 _ _ rfl #[.pointer (some ⟨g, 0, none⟩), .string (bs (stB2 ((S.strs.getD k ⟨#[]⟩))))] rfl (run_call Tryz.func112 (by kernel_rfl) (by kernel_rfl)) ?_
                    refine (c_writeString B g _ (stB2 ((S.strs.getD k ⟨#[]⟩))) _ HB (by (try simp only [List.length_append, List.length_cons, List.length_nil]); first | omega | (have q1 := hr k; first | omega | (have q2 := rgB_le (hok.1.2 _ (getD_memA S.ints (0, 0) k hlt)); unfold rgB2 at q2; rw [List.length_append] at q2; omega)) | (have q1 := hr S.ints.length; first | omega | (have q3 := hs k; first | omega | (have q4 := stB_le (hok.2.2 _ (getD_memA S.strs ⟨#[]⟩ k hlt)); omega)) | (have q3 := hs S.strs.length; omega))) (Nat.le_trans hB D.size)).mono ?_
                    rintro r v6 (⟨⟨rv6, rfl⟩, hb, kp⟩)
                    · replace G1 := PutR.keep kp G1 (by decide) (by decide)
                      replace D := D.trans kp
                      replace HB := hb
                      clear hb kp
                      refine Or.inl ⟨rv6, rfl, ?_⟩
                      simp only [Act.put, lzA, lzB, lzC]
                      refine wpList_nil ?_
                      refine hK17 _ _ ?_
                      clear hK17 K17
                      refine wp_region_lit ?_
                      refine wl_yield (o := ⟨_, _, _, _, _, _⟩) (.int .i64 (k + 1 : Nat)) (yt_addI (by rfl) _ _ _ rfl (((k : Nat) : Int)) 1 (((k + 1 : Nat) : Int)) rfl rfl (by omega) (by omega) (by omega)) ?_
                      simp only [Act.put, lzA, lzB, lzC]
                      refine wl_yield (o := ⟨_, _, _, _, _, _⟩) (.int .i64 (k + 1 : Nat)) (yl_move (by rfl) _ rfl _ rfl) ?_
                      simp only [Act.put, lzA, lzB, lzC]
                      refine wpList_nil ?_
                      show _ ∧ _
                      go_roundw
                      case rel => exact ⟨k + 1, rfl, by omega, by rw [take_step stB2 ⟨#[]⟩ S.strs k hlt]; first | exact HB | (rw [← List.append_assoc]; exact HB) | (unfold rgB2; rw [← List.append_assoc, ← List.append_assoc]; exact HB), G1, D⟩
                      case measure => simp [intOf]; omega
                  · obtain rfl : k = S.strs.length := by omega
                    refine wp_seq_k (fun K15 hK15 => ?_)
                    refine wp_region_lit ?_
                    refine wl_yield (o := ⟨_, _, _, _, _, _⟩) (.bool false) (yt_lssI (by rfl) _ _ _ rfl (((S.strs.length : Nat) : Int)) (((S.strs.length : Nat) : Int)) false rfl rfl (decide_eq_false (by omega))) ?_
                    simp only [Act.put, lzA, lzB, lzC]
                    refine wpList_nil ?_
                    refine hK15 _ _ ?_
                    clear hK15 K15
                    refine wp_seq_k (fun K16 hK16 => ?_)
                    refine wp_cond_false rfl ?_
                    refine wp_exit ?_
                    simp only [Exit.inBlock, Exit.then, if_true]
                    go_end0
                    exact ⟨rfl, by rw [← set_done (by unfold flagS; rw [hab, hco]; try rfl)]; exact HB, D⟩
    · have hco : S.co = false := hc
      clear hc
      refine wp_skip ?_
      refine hK5 _ _ ?_
      clear hK5 K5
      refine wp_seq_k (fun K7 hK7 => ?_)
      refine wp_region_lit ?_
      refine wl_yield (o := ⟨_, _, _, _, _, _⟩) (.pointer (some ⟨g, 0, none⟩)) (yl_move (by rfl) _ rfl _ rfl) ?_
      simp only [Act.put, lzA, lzB, lzC]
      refine wl_yield (o := ⟨_, _, _, _, _, _⟩) (.int .u8 0) (yl_move (by rfl) _ rfl _ rfl) ?_
      simp only [Act.put, lzA, lzB, lzC]
      refine wt_call (o := ⟨_, _, _, _, _, _⟩) (by rfl) 114 _ _ rfl #[.pointer (some ⟨g, 0, none⟩), .int .u8 0] rfl (run_call Tryz.func114 (by kernel_rfl) (by kernel_rfl)) ?_
      refine (c_writeByte B g _ 0 _ HB (by (try simp only [List.length_append, List.length_cons, List.length_nil]); first | omega | (have q1 := hr k; first | omega | (have q2 := rgB_le (hok.1.2 _ (getD_memA S.ints (0, 0) k hlt)); unfold rgB2 at q2; rw [List.length_append] at q2; omega)) | (have q1 := hr S.ints.length; first | omega | (have q3 := hs k; first | omega | (have q4 := stB_le (hok.2.2 _ (getD_memA S.strs ⟨#[]⟩ k hlt)); omega)) | (have q3 := hs S.strs.length; omega))) (Nat.le_trans hB D.size) (by decide) (by decide)).mono ?_
      rintro r v2 (⟨⟨rv2, rfl⟩, hb, kp⟩)
      · replace G1 := PutR.keep kp G1 (by decide) (by decide)
        replace D := D.trans kp
        replace HB := hb
        clear hb kp
        refine Or.inl ⟨rv2, rfl, ?_⟩
        simp only [Act.put, lzA, lzB, lzC]
        refine wpList_nil ?_
        refine hK7 _ _ ?_
        clear hK7 K7
        refine wp_seq_k (fun K8 hK8 => ?_)
        refine wp_region_lit ?_
        refine wl_yield (o := ⟨_, _, _, _, _, _⟩) (.pointer (some ⟨g, 0, none⟩)) (yl_move (by rfl) _ rfl _ rfl) ?_
        simp only [Act.put, lzA, lzB, lzC]
        refine wl_yield (o := ⟨_, _, _, _, _, _⟩) (.pointer (some ⟨g1, 1, none⟩)) (yt_fSt1 (by rfl) _ rfl g1 0 rfl) ?_
        simp only [Act.put, lzA, lzB, lzC]
        refine wl_yield (o := ⟨_, _, _, _, _, _⟩) (.slice pI S.ints.length cI) (yt_ldLr (by rfl) _ rfl _ _ rfl pI S.ints.length cI (fun _ h => by subst h; exact cell_heap G1 1)) ?_
        simp only [Act.put, lzA, lzB, lzC]
        refine wl_yield (o := ⟨_, _, _, _, _, _⟩) (.int .i64 (S.ints.length : Nat)) (yt_lenR (by rfl) _ rfl pI S.ints.length cI rfl) ?_
        simp only [Act.put, lzA, lzB, lzC]
        refine wt_call (o := ⟨_, _, _, _, _, _⟩) (by rfl) 64 _ _ rfl #[.pointer (some ⟨g, 0, none⟩), .int .i64 (S.ints.length : Nat)] rfl (run_call Tryz.func64 (by kernel_rfl) (by kernel_rfl)) ?_
        refine (putCount_any B g S.ints.length _ _ HB (Nat.le_trans hB D.size) (by (try simp only [List.length_append, List.length_cons, List.length_nil]); first | omega | (have q1 := hr k; first | omega | (have q2 := rgB_le (hok.1.2 _ (getD_memA S.ints (0, 0) k hlt)); unfold rgB2 at q2; rw [List.length_append] at q2; omega)) | (have q1 := hr S.ints.length; first | omega | (have q3 := hs k; first | omega | (have q4 := stB_le (hok.2.2 _ (getD_memA S.strs ⟨#[]⟩ k hlt)); omega)) | (have q3 := hs S.strs.length; omega))) (by omega)).mono ?_
        rintro r v3 (⟨rfl, hb, kp⟩)
        · replace G1 := PutR.keep kp G1 (by decide) (by decide)
          replace D := D.trans kp
          replace HB := hb
          clear hb kp
          refine Or.inl ⟨.tuple #[], rfl, ?_⟩
          simp only [Act.put, lzA, lzB, lzC]
          refine wpList_nil ?_
          refine hK8 _ _ ?_
          clear hK8 K8
          refine wp_seq_k (fun K9 hK9 => ?_)
          refine wp_seq_k (fun K10 hK10 => ?_)
          refine wp_region_lit ?_
          refine wl_yield (o := ⟨_, _, _, _, _, _⟩) (.pointer (some ⟨g1, 1, none⟩)) (yt_fSt1 (by rfl) _ rfl g1 0 rfl) ?_
          simp only [Act.put, lzA, lzB, lzC]
          refine wl_yield (o := ⟨_, _, _, _, _, _⟩) (.slice pI S.ints.length cI) (yt_ldLr (by rfl) _ rfl _ _ rfl pI S.ints.length cI (fun _ h => by subst h; exact cell_heap G1 1)) ?_
          simp only [Act.put, lzA, lzB, lzC]
          refine wl_yield (o := ⟨_, _, _, _, _, _⟩) (.int .i64 (S.ints.length : Nat)) (yt_lenR (by rfl) _ rfl pI S.ints.length cI rfl) ?_
          simp only [Act.put, lzA, lzB, lzC]
          refine wl_yield (o := ⟨_, _, _, _, _, _⟩) (.int .i64 0) (yl_move (by rfl) _ rfl _ rfl) ?_
          simp only [Act.put, lzA, lzB, lzC]
          refine wpList_nil ?_
          refine hK10 _ _ ?_
          clear hK10 K10
          refine wp_block ?_
          go_loopw [28] (fun i wr => ∃ k : Nat, i = .int .i64 k ∧ k ≤ S.ints.length ∧ BW wr B g (l ++ [UInt8.ofNat (0 : Int).toNat] ++ enc S.ints.length ++ (S.ints.take k).flatMap rgB2) ∧ wr.heap[g1]? = some (.cells #[.bool (S.absent), .slice pI S.ints.length cI, .bool (S.co), .slice pS S.strs.length cS] 25 (0, 0)) ∧ PutR B w wr) (fun i _ => S.ints.length - (intOf i).toNat)
          case atStart => exact ⟨0, rfl, Nat.zero_le _, by rw [List.take_zero, List.flatMap_nil, List.append_nil]; exact HB, G1, D⟩
          case round =>
            clear D HB G1
            obtain ⟨k, rfl, hk, HB, G1, D⟩ := hrel
            by_cases hlt : k < S.ints.length
            · obtain ⟨bI, oI, rfl, c0, c1⟩ := rng_cell (hI _ D) k hlt
              refine wp_seq_k (fun K11 hK11 => ?_)
              refine wp_region_lit ?_
              refine wl_yield (o := ⟨_, _, _, _, _, _⟩) (.bool true) (yt_lssI (by rfl) _ _ _ rfl (((k : Nat) : Int)) (((S.ints.length : Nat) : Int)) true rfl rfl (decide_eq_true (by omega))) ?_
              simp only [Act.put, lzA, lzB, lzC]
              refine wpList_nil ?_
              refine hK11 _ _ ?_
              clear hK11 K11
              refine wp_seq_k (fun K12 hK12 => ?_)
              refine wp_cond_true rfl ?_
              refine wp_skip ?_
              refine hK12 _ _ ?_
              clear hK12 K12
              refine wp_seq_k (fun K13 hK13 => ?_)
              refine wp_block ?_
              refine wp_seq_k (fun K14 hK14 => ?_)
              refine wp_region_lit ?_
              refine wl_yield (o := ⟨_, _, _, _, _, _⟩) (.pointer (some ⟨bI, oI + k * 2, none⟩)) (yt_atR (by rfl) _ _ rfl bI oI _ _ k rfl rfl (hlt)) ?_
              simp only [Act.put, lzA, lzB, lzC]
              refine wl_yield (o := ⟨_, _, _, _, _, _⟩) (.agg #[.int .i64 ((S.ints.getD k (0, 0))).1, .int .i64 ((S.ints.getD k (0, 0))).2]) (yt_ldRg (by rfl) _ rfl bI _ rfl (S.ints.getD k (0, 0)).1 (S.ints.getD k (0, 0)).2 (fun _ h => by subst h; exact ⟨c0, c1⟩)) ?_
              simp only [Act.put, lzA, lzB, lzC]
              refine wt_allocRg (o := ⟨_, _, _, _, _, _⟩) (by rfl) rfl (fun v4 g4 hg G4 kb => ?_)
              simp only [Act.put, lzA, lzB, lzC]
              have n_g1_g4 : g1 ≠ g4 := by have := lt_heap G1; omega
              have ge_g4 : w.heap.size ≤ g4 := Nat.le_trans D.size hg
              clear hg
              replace D := PutR.on hB D kb
              replace HB := HB.on kb
              replace G1 := heap_on G1 kb
              clear kb
              replace G4 : v4.heap[g4]? = some (.cells #[.int .i64 0, .int .i64 0] 114 (0, 0)) := G4
              refine wt_putRg (o := ⟨_, _, _, _, _, _⟩) rfl _ _ rfl _ rfl ((S.ints.getD k (0, 0))) rfl G4 rfl (fun v5 X kg => ?_)
              simp only [Act.put, lzA, lzB, lzC]
              replace D := PutR.new hB D ge_g4 kg
              replace HB := BW.gr HB kg G4 (by decide) (by decide)
              replace G1 := heap_gr G1 kg n_g1_g4
              clear kg
              replace G4 : v5.heap[g4]? = some (.cells #[.int .i64 (((S.ints.getD k (0, 0))).1), .int .i64 (((S.ints.getD k (0, 0))).2)] 114 (0, 0)) := X
              clear X
              refine wpList_nil ?_
              refine hK14 _ _ ?_
              clear hK14 K14
              refine wp_seq_k (fun K15 hK15 => ?_)
              refine wp_region_lit ?_
              refine wl_yield (o := ⟨_, _, _, _, _, _⟩) (.pointer (some ⟨g, 0, none⟩)) (yl_move (by rfl) _ rfl _ rfl) ?_
              simp only [Act.put, lzA, lzB, lzC]
              refine wl_yield (o := ⟨_, _, _, _, _, _⟩) (.pointer (some ⟨g4, 0, none⟩)) (yt_fRg0 (by rfl) _ rfl g4 0 rfl) ?_
              simp only [Act.put, lzA, lzB, lzC]
              refine wl_yield (o := ⟨_, _, _, _, _, _⟩) (.int .i64 (((S.ints.getD k (0, 0))).1)) (yt_ldI (by rfl) _ rfl _ _ rfl (((S.ints.getD k (0, 0))).1) (fun _ h => by subst h; exact cell_heap G4 0)) ?_
              simp only [Act.put, lzA, lzB, lzC]
              refine wt_call (o := ⟨_, _, _, _, _, _⟩) (by rfl) 115 _ _ rfl #[.int .i64 (((S.ints.getD k (0, 0))).1)] rfl (run_call Tryz.func115 (by kernel_rfl) (by kernel_rfl)) ?_
              refine (c_int (((S.ints.getD k (0, 0))).1) _ (hok.1.2 _ (getD_memA S.ints (0, 0) k hlt)).1).mono ?_
              rintro r v6 ⟨rfl, kb⟩
              replace D := PutR.on hB D kb
              replace HB := HB.on kb
              replace G1 := heap_on G1 kb
              replace G4 := heap_on G4 kb
              clear kb
              refine Or.inl ⟨.string (bs (enc (zz (((S.ints.getD k (0, 0))).1)))), rfl, ?_⟩
              simp only [Act.put, lzA, lzB, lzC]
              refine wt_call (o := ⟨_, _, _, _, _, _⟩) (by rfl) 112 _ _ rfl #[.pointer (some ⟨g, 0, none⟩), .string (bs (enc (zz (((S.ints.getD k (0, 0))).1))))] rfl (run_call Tryz.func112 (by kernel_rfl) (by kernel_rfl)) ?_
              refine (c_writeString B g _ (enc (zz (((S.ints.getD k (0, 0))).1))) _ HB (by (try simp only [List.length_append, List.length_cons, List.length_nil]); first | omega | (have q1 := hr k; first | omega | (have q2 := rgB_le (hok.1.2 _ (getD_memA S.ints (0, 0) k hlt)); unfold rgB2 at q2; rw [List.length_append] at q2; omega)) | (have q1 := hr S.ints.length; first | omega | (have q3 := hs k; first | omega | (have q4 := stB_le (hok.2.2 _ (getD_memA S.strs ⟨#[]⟩ k hlt)); omega)) | (have q3 := hs S.strs.length; omega))) (Nat.le_trans hB D.size)).mono ?_
              rintro r v7 (⟨⟨rv7, rfl⟩, hb, kp⟩)
              · replace G1 := PutR.keep kp G1 (by decide) (by decide)
                replace G4 := PutR.keep kp G4 (by decide) (by decide)
                replace D := D.trans kp
                replace HB := hb
                clear hb kp
                refine Or.inl ⟨rv7, rfl, ?_⟩
                simp only [Act.put, lzA, lzB, lzC]
                refine wpList_nil ?_
                refine hK15 _ _ ?_
                clear hK15 K15
                refine wp_region_lit ?_
                refine wl_yield (o := ⟨_, _, _, _, _, _⟩) (.pointer (some ⟨g, 0, none⟩)) (yl_move (by rfl) _ rfl _ rfl) ?_
                simp only [Act.put, lzA, lzB, lzC]
                refine wl_yield (o := ⟨_, _, _, _, _, _⟩) (.pointer (some ⟨g4, 1, none⟩)) (yt_fRg1 (by rfl) _ rfl g4 0 rfl) ?_
                simp only [Act.put, lzA, lzB, lzC]
                refine wl_yield (o := ⟨_, _, _, _, _, _⟩) (.int .i64 (((S.ints.getD k (0, 0))).2)) (yt_ldI (by rfl) _ rfl _ _ rfl (((S.ints.getD k (0, 0))).2) (fun _ h => by subst h; exact cell_heap G4 1)) ?_
                simp only [Act.put, lzA, lzB, lzC]
                refine wt_call (o := ⟨_, _, _, _, _, _⟩) (by rfl) 115 _ _ rfl #[.int .i64 (((S.ints.getD k (0, 0))).2)] rfl (run_call Tryz.func115 (by kernel_rfl) (by kernel_rfl)) ?_
                refine (c_int (((S.ints.getD k (0, 0))).2) _ (hok.1.2 _ (getD_memA S.ints (0, 0) k hlt)).2).mono ?_
                rintro r v8 ⟨rfl, kb⟩
                replace D := PutR.on hB D kb
                replace HB := HB.on kb
                replace G1 := heap_on G1 kb
                replace G4 := heap_on G4 kb
                clear kb
                refine Or.inl ⟨.string (bs (enc (zz (((S.ints.getD k (0, 0))).2)))), rfl, ?_⟩
                simp only [Act.put, lzA, lzB, lzC]
                refine wt_call (o := ⟨_, _, _, _, _, _⟩) (by rfl) 112 _ _ rfl #[.pointer (some ⟨g, 0, none⟩), .string (bs (enc (zz (((S.ints.getD k (0, 0))).2))))] rfl (run_call Tryz.func112 (by kernel_rfl) (by kernel_rfl)) ?_
                refine (c_writeString B g _ (enc (zz (((S.ints.getD k (0, 0))).2))) _ HB (by (try simp only [List.length_append, List.length_cons, List.length_nil]); first | omega | (have q1 := hr k; first | omega | (have q2 := rgB_le (hok.1.2 _ (getD_memA S.ints (0, 0) k hlt)); unfold rgB2 at q2; rw [List.length_append] at q2; omega)) | (have q1 := hr S.ints.length; first | omega | (have q3 := hs k; first | omega | (have q4 := stB_le (hok.2.2 _ (getD_memA S.strs ⟨#[]⟩ k hlt)); omega)) | (have q3 := hs S.strs.length; omega))) (Nat.le_trans hB D.size)).mono ?_
                rintro r v9 (⟨⟨rv9, rfl⟩, hb, kp⟩)
                · replace G1 := PutR.keep kp G1 (by decide) (by decide)
                  replace G4 := PutR.keep kp G4 (by decide) (by decide)
                  replace D := D.trans kp
                  replace HB := hb
                  clear hb kp
                  refine Or.inl ⟨rv9, rfl, ?_⟩
                  simp only [Act.put, lzA, lzB, lzC]
                  refine wpList_nil ?_
                  refine hK13 _ _ ?_
                  clear hK13 K13
                  refine wp_region_lit ?_
                  refine wl_yield (o := ⟨_, _, _, _, _, _⟩) (.int .i64 (k + 1 : Nat)) (yt_addI (by rfl) _ _ _ rfl (((k : Nat) : Int)) 1 (((k + 1 : Nat) : Int)) rfl rfl (by omega) (by omega) (by omega)) ?_
                  simp only [Act.put, lzA, lzB, lzC]
                  refine wl_yield (o := ⟨_, _, _, _, _, _⟩) (.int .i64 (k + 1 : Nat)) (yl_move (by rfl) _ rfl _ rfl) ?_
                  simp only [Act.put, lzA, lzB, lzC]
                  refine wpList_nil ?_
                  show _ ∧ _
                  go_roundw
                  case rel => exact ⟨k + 1, rfl, by omega, by rw [take_step rgB2 (0, 0) S.ints k hlt]; first | exact HB | (rw [← List.append_assoc]; exact HB) | (unfold rgB2; rw [← List.append_assoc, ← List.append_assoc]; exact HB), G1, D⟩
                  case measure => simp [intOf]; omega
            · obtain rfl : k = S.ints.length := by omega
              refine wp_seq_k (fun K11 hK11 => ?_)
              refine wp_region_lit ?_
              refine wl_yield (o := ⟨_, _, _, _, _, _⟩) (.bool false) (yt_lssI (by rfl) _ _ _ rfl (((S.ints.length : Nat) : Int)) (((S.ints.length : Nat) : Int)) false rfl rfl (decide_eq_false (by omega))) ?_
              simp only [Act.put, lzA, lzB, lzC]
              refine wpList_nil ?_
              refine hK11 _ _ ?_
              clear hK11 K11
              refine wp_seq_k (fun K12 hK12 => ?_)
              refine wp_cond_false rfl ?_
              refine wp_exit ?_
              refine hK9 _ _ ?_
              clear hK12 K12 hK9 K9
              refine wp_seq_k (fun K13 hK13 => ?_)
              refine wp_region_lit ?_
              refine wl_yield (o := ⟨_, _, _, _, _, _⟩) (.pointer (some ⟨g, 0, none⟩)) (yl_move (by rfl) _ rfl _ rfl) ?_
              simp only [Act.put, lzA, lzB, lzC]
              refine wl_yield (o := ⟨_, _, _, _, _, _⟩) (.pointer (some ⟨g1, 3, none⟩)) (yt_fSt3 (by rfl) _ rfl g1 0 rfl) ?_
              simp only [Act.put, lzA, lzB, lzC]
              refine wl_yield (o := ⟨_, _, _, _, _, _⟩) (.slice pS S.strs.length cS) (yt_ldLs (by rfl) _ rfl _ _ rfl pS S.strs.length cS (fun _ h => by subst h; exact cell_heap G1 3)) ?_
              simp only [Act.put, lzA, lzB, lzC]
              refine wl_yield (o := ⟨_, _, _, _, _, _⟩) (.int .i64 (S.strs.length : Nat)) (yt_lenT (by rfl) _ rfl pS S.strs.length cS rfl) ?_
              simp only [Act.put, lzA, lzB, lzC]
              refine wt_call (o := ⟨_, _, _, _, _, _⟩) (by rfl) 64 _ _ rfl #[.pointer (some ⟨g, 0, none⟩), .int .i64 (S.strs.length : Nat)] rfl (run_call Tryz.func64 (by kernel_rfl) (by kernel_rfl)) ?_
              refine (putCount_any B g S.strs.length _ _ HB (Nat.le_trans hB D.size) (by (try simp only [List.length_append, List.length_cons, List.length_nil]); first | omega | (have q1 := hr k; first | omega | (have q2 := rgB_le (hok.1.2 _ (getD_memA S.ints (0, 0) k hlt)); unfold rgB2 at q2; rw [List.length_append] at q2; omega)) | (have q1 := hr S.ints.length; first | omega | (have q3 := hs k; first | omega | (have q4 := stB_le (hok.2.2 _ (getD_memA S.strs ⟨#[]⟩ k hlt)); omega)) | (have q3 := hs S.strs.length; omega))) (by omega)).mono ?_
              rintro r v4 (⟨rfl, hb, kp⟩)
              · replace G1 := PutR.keep kp G1 (by decide) (by decide)
                replace D := D.trans kp
                replace HB := hb
                clear hb kp
                refine Or.inl ⟨.tuple #[], rfl, ?_⟩
                simp only [Act.put, lzA, lzB, lzC]
                refine wpList_nil ?_
                refine hK13 _ _ ?_
                clear hK13 K13
                refine wp_seq_k (fun K14 hK14 => ?_)
                refine wp_region_lit ?_
                refine wl_yield (o := ⟨_, _, _, _, _, _⟩) (.pointer (some ⟨g1, 3, none⟩)) (yt_fSt3 (by rfl) _ rfl g1 0 rfl) ?_
                simp only [Act.put, lzA, lzB, lzC]
                refine wl_yield (o := ⟨_, _, _, _, _, _⟩) (.slice pS S.strs.length cS) (yt_ldLs (by rfl) _ rfl _ _ rfl pS S.strs.length cS (fun _ h => by subst h; exact cell_heap G1 3)) ?_
                simp only [Act.put, lzA, lzB, lzC]
                refine wl_yield (o := ⟨_, _, _, _, _, _⟩) (.int .i64 (S.strs.length : Nat)) (yt_lenT (by rfl) _ rfl pS S.strs.length cS rfl) ?_
                simp only [Act.put, lzA, lzB, lzC]
                refine wl_yield (o := ⟨_, _, _, _, _, _⟩) (.int .i64 0) (yl_move (by rfl) _ rfl _ rfl) ?_
                simp only [Act.put, lzA, lzB, lzC]
                refine wpList_nil ?_
                refine hK14 _ _ ?_
                clear hK14 K14
                refine wp_block ?_
                go_loopw [51] (fun i wr => ∃ k : Nat, i = .int .i64 k ∧ k ≤ S.strs.length ∧ BW wr B g (l ++ [UInt8.ofNat (0 : Int).toNat] ++ enc S.ints.length ++ (S.ints.take S.ints.length).flatMap rgB2 ++ enc S.strs.length ++ (S.strs.take k).flatMap stB2) ∧ wr.heap[g1]? = some (.cells #[.bool (S.absent), .slice pI S.ints.length cI, .bool (S.co), .slice pS S.strs.length cS] 25 (0, 0)) ∧ PutR B w wr) (fun i _ => S.strs.length - (intOf i).toNat)
                case atStart => exact ⟨0, rfl, Nat.zero_le _, by rw [List.take_zero, List.flatMap_nil, List.append_nil]; exact HB, G1, D⟩
                case round =>
                  clear D HB G1
                  obtain ⟨k, rfl, hk, HB, G1, D⟩ := hrel
                  by_cases hlt : k < S.strs.length
                  · obtain ⟨bS, oS, rfl, c0⟩ := str_cell (hT _ D) k hlt
                    refine wp_seq_k (fun K15 hK15 => ?_)
                    refine wp_region_lit ?_
                    refine wl_yield (o := ⟨_, _, _, _, _, _⟩) (.bool true) (yt_lssI (by rfl) _ _ _ rfl (((k : Nat) : Int)) (((S.strs.length : Nat) : Int)) true rfl rfl (decide_eq_true (by omega))) ?_
                    simp only [Act.put, lzA, lzB, lzC]
                    refine wpList_nil ?_
                    refine hK15 _ _ ?_
                    clear hK15 K15
                    refine wp_seq_k (fun K16 hK16 => ?_)
                    refine wp_cond_true rfl ?_
                    refine wp_skip ?_
                    refine hK16 _ _ ?_
                    clear hK16 K16
                    refine wp_seq_k (fun K17 hK17 => ?_)
                    refine wp_block ?_
                    refine wp_seq_k (fun K18 hK18 => ?_)
                    refine wp_region_lit ?_
                    refine wl_yield (o := ⟨_, _, _, _, _, _⟩) (.pointer (some ⟨bS, oS + k * 1, none⟩)) (yt_atT (by rfl) _ _ rfl bS oS _ _ k rfl rfl (hlt)) ?_
                    simp only [Act.put, lzA, lzB, lzC]
                    refine wl_yield (o := ⟨_, _, _, _, _, _⟩) (.string (S.strs.getD k ⟨#[]⟩)) (yt_ldS (by rfl) _ rfl _ _ rfl (S.strs.getD k ⟨#[]⟩) (fun _ h => by subst h; exact c0)) ?_
                    simp only [Act.put, lzA, lzB, lzC]
                    refine wl_yield (o := ⟨_, _, _, _, _, _⟩) (.string (S.strs.getD k ⟨#[]⟩)) (yl_assign (by rfl) _ rfl _ rfl) ?_
                    simp only [Act.put, lzA, lzB, lzC]
                    refine wpList_nil ?_
                    refine hK18 _ _ ?_
                    clear hK18 K18
                    refine wp_region_lit ?_
                    refine wl_yield (o := ⟨_, _, _, _, _, _⟩) (.pointer (some ⟨g, 0, none⟩)) (yl_move (by rfl) _ rfl _ rfl) ?_
                    simp only [Act.put, lzA, lzB, lzC]
                    refine wl_yield (o := ⟨_, _, _, _, _, _⟩) (.string (S.strs.getD k ⟨#[]⟩)) (yl_move (by rfl) _ rfl _ rfl) ?_
                    simp only [Act.put, lzA, lzB, lzC]
                    refine wt_call (o := ⟨_, _, _, _, _, _⟩) (by rfl) 116 _ _ rfl #[.string (S.strs.getD k ⟨#[]⟩)] rfl (run_call Tryz.func116 (by kernel_rfl) (by kernel_rfl)) ?_
                    refine (c_str ((S.strs.getD k ⟨#[]⟩)) _ (hok.2.2 _ (getD_memA S.strs ⟨#[]⟩ k hlt))).mono ?_
                    rintro r v5 ⟨rfl, kb⟩
                    replace D := PutR.on hB D kb
                    replace HB := HB.on kb
                    replace G1 := heap_on G1 kb
                    clear kb
                    refine Or.inl ⟨.string (bs (stB2 ((S.strs.getD k ⟨#[]⟩)))), rfl, ?_⟩
                    simp only [Act.put, lzA, lzB, lzC]
                    refine wt_call (o := ⟨_, _, _, _, _, _⟩) (by rfl) 112 _ _ rfl #[.pointer (some ⟨g, 0, none⟩), .string (bs (stB2 ((S.strs.getD k ⟨#[]⟩))))] rfl (run_call Tryz.func112 (by kernel_rfl) (by kernel_rfl)) ?_
                    refine (c_writeString B g _ (stB2 ((S.strs.getD k ⟨#[]⟩))) _ HB (by (try simp only [List.length_append, List.length_cons, List.length_nil]); first | omega | (have q1 := hr k; first | omega | (have q2 := rgB_le (hok.1.2 _ (getD_memA S.ints (0, 0) k hlt)); unfold rgB2 at q2; rw [List.length_append] at q2; omega)) | (have q1 := hr S.ints.length; first | omega | (have q3 := hs k; first | omega | (have q4 := stB_le (hok.2.2 _ (getD_memA S.strs ⟨#[]⟩ k hlt)); omega)) | (have q3 := hs S.strs.length; omega))) (Nat.le_trans hB D.size)).mono ?_
                    rintro r v6 (⟨⟨rv6, rfl⟩, hb, kp⟩)
                    · replace G1 := PutR.keep kp G1 (by decide) (by decide)
                      replace D := D.trans kp
                      replace HB := hb
                      clear hb kp
                      refine Or.inl ⟨rv6, rfl, ?_⟩
                      simp only [Act.put, lzA, lzB, lzC]
                      refine wpList_nil ?_
                      refine hK17 _ _ ?_
                      clear hK17 K17
                      refine wp_region_lit ?_
                      refine wl_yield (o := ⟨_, _, _, _, _, _⟩) (.int .i64 (k + 1 : Nat)) (yt_addI (by rfl) _ _ _ rfl (((k : Nat) : Int)) 1 (((k + 1 : Nat) : Int)) rfl rfl (by omega) (by omega) (by omega)) ?_
                      simp only [Act.put, lzA, lzB, lzC]
                      refine wl_yield (o := ⟨_, _, _, _, _, _⟩) (.int .i64 (k + 1 : Nat)) (yl_move (by rfl) _ rfl _ rfl) ?_
                      simp only [Act.put, lzA, lzB, lzC]
                      refine wpList_nil ?_
                      show _ ∧ _
                      go_roundw
                      case rel => exact ⟨k + 1, rfl, by omega, by rw [take_step stB2 ⟨#[]⟩ S.strs k hlt]; first | exact HB | (rw [← List.append_assoc]; exact HB) | (unfold rgB2; rw [← List.append_assoc, ← List.append_assoc]; exact HB), G1, D⟩
                      case measure => simp [intOf]; omega
                  · obtain rfl : k = S.strs.length := by omega
                    refine wp_seq_k (fun K15 hK15 => ?_)
                    refine wp_region_lit ?_
                    refine wl_yield (o := ⟨_, _, _, _, _, _⟩) (.bool false) (yt_lssI (by rfl) _ _ _ rfl (((S.strs.length : Nat) : Int)) (((S.strs.length : Nat) : Int)) false rfl rfl (decide_eq_false (by omega))) ?_
                    simp only [Act.put, lzA, lzB, lzC]
                    refine wpList_nil ?_
                    refine hK15 _ _ ?_
                    clear hK15 K15
                    refine wp_seq_k (fun K16 hK16 => ?_)
                    refine wp_cond_false rfl ?_
                    refine wp_exit ?_
                    simp only [Exit.inBlock, Exit.then, if_true]
                    go_end0
                    exact ⟨rfl, by rw [← set_done (by unfold flagS; rw [hab, hco]; try rfl)]; exact HB, D⟩
theorem putSet_any (B g : Nat) (s : SC) (S : SetV) (l : List UInt8) (w : World) (HB : BW w B g l) (hB : B ≤ w.heap.size) (hl : l.length ≤ 900000) (hok : okSt S) (hs : ∀ W, PutR B w W → SetAt W s.val S) :
    Calls Tryz.prog 65 #[.pointer (some ⟨g, 0, none⟩), s.val] w fun e w' => e = .returned (.tuple #[]) ∧ BW w' B g (l ++ setB S) ∧ PutR B w w' := by
  obtain ⟨e, _, _⟩ := setAt_parts (hs w (PutR.refl _ _))
  have h := putSet_one B g S s.p s.q s.c s.e l w HB hB hl hok (fun W D => (setAt_parts (hs W D)).2.1) (fun W D => (setAt_parts (hs W D)).2.2)
  rw [e]
  exact h
end Go.Proofs.YtlmdcaemjaldfaaGreat
namespace Go.Proofs.YtlmdcaemjaldfaaGreat
open Go.RowKit
def evP (e : EvV) (k : Nat) : List UInt8 := (List.range k).flatMap fun i => vaB (e.get i)
def bxP (b : BoxV) (k : Nat) : List UInt8 := (List.range k).flatMap fun i => setB (b.get i)
theorem evP_step (e : EvV) (k : Nat) : evP e (k + 1) = evP e k ++ vaB (e.get k) := by unfold evP; rw [List.range_succ, List.flatMap_append]; simp
theorem bxP_step (b : BoxV) (k : Nat) : bxP b (k + 1) = bxP b k ++ setB (b.get k) := by unfold bxP; rw [List.range_succ, List.flatMap_append]; simp
theorem evP_all (e : EvV) : evP e 4 = evB e := by simp [evP, evB, List.range_succ, EvV.get]
theorem bxP_all (b : BoxV) : bxP b 4 = boxB b := by simp [bxP, boxB, List.range_succ, BoxV.get]
theorem vaB_le {v : Va} (h : okVa v) : (vaB v).length ≤ 20 := by
  rcases okVa_cases h with rfl | ⟨n, rfl, hi⟩ | ⟨s, rfl, hs⟩
  · decide
  · have := (enc_len_le (zz n) (zz_bd _ hi.1 hi.2)).2
    simp [vaB]
    omega
  · have := stB_le hs
    simp [vaB]
    omega
theorem setB_le {S : SetV} (h : okSt S) : (setB S).length ≤ 300 := by
  have h1 := rgs_le h S.ints.length
  have h2 := sts_le h S.strs.length
  rw [List.take_length] at h1 h2
  have h3 := (enc_len_le S.ints.length (by have := h.1.1; omega)).2
  have h4 := (enc_len_le S.strs.length (by have := h.2.1; omega)).2
  simp only [setB, List.length_cons, List.length_append]
  omega
theorem okEv_get {e : EvV} (h : okEv e) (k : Nat) (hk : k < 4) : okVa (e.get k) := by
  match k, hk with
  | 0, _ => exact h.1
  | 1, _ => exact h.2.1
  | 2, _ => exact h.2.2.1
  | 3, _ => exact h.2.2.2
theorem okBx_get {e : BoxV} (h : okBx e) (k : Nat) (hk : k < 4) : okSt (e.get k) := by
  match k, hk with
  | 0, _ => exact h.1
  | 1, _ => exact h.2.1
  | 2, _ => exact h.2.2.1
  | 3, _ => exact h.2.2.2
theorem evP_le {e : EvV} (h : okEv e) (k : Nat) (hk : k ≤ 4) : (evP e k).length ≤ 80 := by
  have := flat_le (fun i => vaB (e.get i)) 20 (List.range k) (fun x hx => vaB_le (okEv_get h x (by have := List.mem_range.1 hx; omega)))
  rw [List.length_range] at this
  show ((List.range k).flatMap fun i => vaB (e.get i)).length ≤ 80
  omega
theorem bxP_le {e : BoxV} (h : okBx e) (k : Nat) (hk : k ≤ 4) : (bxP e k).length ≤ 1200 := by
  have := flat_le (fun i => setB (e.get i)) 300 (List.range k) (fun x hx => setB_le (okBx_get h x (by have := List.mem_range.1 hx; omega)))
  rw [List.length_range] at this
  show ((List.range k).flatMap fun i => setB (e.get i)).length ≤ 1200
  omega
theorem fil_le {f : List BoxV} (h : ∀ b ∈ f, okBx b) (hl : f.length ≤ 4) (k : Nat) : ((f.take k).flatMap boxB).length ≤ 4800 := by
  have := flat_le boxB 1200 (f.take k) (fun x hx => by rw [← bxP_all]; exact bxP_le (h x (List.mem_of_mem_take hx)) 4 (Nat.le_refl _))
  rw [List.length_take] at this
  omega
set_option maxHeartbeats 4000000 in
set_option maxRecDepth 100000 in
theorem putEvent_any (ev : EvV) (w : World) (hok : okEv ev) :
    Calls Tryz.prog 29 #[evVal ev] w fun e w' => e = .returned (.string (bs (evB ev))) ∧ Below w.heap.size w w' := by
  have hB : w.heap.size ≤ w.heap.size := Nat.le_refl _
  have D : PutR w.heap.size w w := PutR.refl _ _
  go_enter Tryz.func29, Tryz.ntmps29
  refine wp_seq_k (fun K1 hK1 => ?_)
  refine wp_region_lit ?_
  refine wt_boxEv (o := ⟨_, _, _, _, _, _⟩) (by rfl) _ rfl (ev) rfl (fun v1 g1 hg G1 kb => ?_)
  simp only [Act.put, lzA, lzB, lzC]
  have ge_g1 : w.heap.size ≤ g1 := Nat.le_trans D.size hg
  clear hg
  replace D := PutR.on hB D kb
  clear kb
  replace G1 : v1.heap[g1]? = some (.cells #[.int .i64 (ev.v0.1), .int .i64 (ev.v0.2.1), .string ev.v0.2.2, .int .i64 (ev.v1.1), .int .i64 (ev.v1.2.1), .string ev.v1.2.2, .int .i64 (ev.v2.1), .int .i64 (ev.v2.2.1), .string ev.v2.2.2, .int .i64 (ev.v3.1), .int .i64 (ev.v3.2.1), .string ev.v3.2.2] 44 (0, 0)) := G1
  refine wl_yield (o := ⟨_, _, _, _, _, _⟩) (.string (bs ([]))) (yl_assign (by rfl) _ rfl _ rfl) ?_
  simp only [Act.put, lzA, lzB, lzC]
  refine wpList_nil ?_
  refine hK1 _ _ ?_
  clear hK1 K1
  refine wp_seq_k (fun K2 hK2 => ?_)
  refine wp_region_lit ?_
  refine wt_allocBu (o := ⟨_, _, _, _, _, _⟩) (by rfl) rfl (B := w.heap.size) D.size (fun v2 g2 hg HB kb => ?_)
  simp only [Act.put, lzA, lzB, lzC]
  have hgl := BW.lt HB
  clear hgl
  replace D := PutR.on hB D kb
  replace G1 := heap_on G1 kb
  clear kb
  clear hg
  refine wpList_nil ?_
  refine hK2 _ _ ?_
  clear hK2 K2
  refine wp_seq_k (fun K3 hK3 => ?_)
  refine wp_seq_k (fun K4 hK4 => ?_)
  refine wp_region_lit ?_
  refine wl_yield (o := ⟨_, _, _, _, _, _⟩) (evVal ev) (yl_ev (by rfl) _ rfl _ 0 rfl _ _ _ _ _ _ _ _ _ _ _ _ (fun _ h => by subst h; exact ⟨cell_heap G1 0, cell_heap G1 1, cell_heap G1 2, cell_heap G1 3, cell_heap G1 4, cell_heap G1 5, cell_heap G1 6, cell_heap G1 7, cell_heap G1 8, cell_heap G1 9, cell_heap G1 10, cell_heap G1 11⟩)) ?_
  simp only [Act.put, lzA, lzB, lzC]
  refine wl_yield (o := ⟨_, _, _, _, _, _⟩) (.int .i64 0) (yl_move (by rfl) _ rfl _ rfl) ?_
  simp only [Act.put, lzA, lzB, lzC]
  refine wpList_nil ?_
  refine hK4 _ _ ?_
  clear hK4 K4
  refine wp_block ?_
  go_loopw [7] (fun i wr => ∃ k : Nat, i = .int .i64 k ∧ k ≤ 4 ∧ BW wr w.heap.size g2 (evP ev k) ∧ PutR w.heap.size w wr) (fun i _ => 4 - (intOf i).toNat)
  case atStart => exact ⟨0, rfl, by omega, HB, D⟩
  case round =>
    clear D HB
    obtain ⟨k, rfl, hk, HB, D⟩ := hrel
    by_cases hlt : k < 4
    · refine wp_seq_k (fun K5 hK5 => ?_)
      refine wp_region_lit ?_
      refine wl_yield (o := ⟨_, _, _, _, _, _⟩) (.bool true) (yt_lssI (by rfl) _ _ _ rfl (((k : Nat) : Int)) 4 true rfl rfl (decide_eq_true (by omega))) ?_
      simp only [Act.put, lzA, lzB, lzC]
      refine wpList_nil ?_
      refine hK5 _ _ ?_
      clear hK5 K5
      refine wp_seq_k (fun K6 hK6 => ?_)
      refine wp_cond_true rfl ?_
      refine wp_skip ?_
      refine hK6 _ _ ?_
      clear hK6 K6
      refine wp_seq_k (fun K7 hK7 => ?_)
      refine wp_block ?_
      refine wp_seq_k (fun K8 hK8 => ?_)
      refine wp_region_lit ?_
      refine wl_yield (o := ⟨_, _, _, _, _, _⟩) (vVal ((EvV.get ev k))) (yt_evIdx (by rfl) _ _ rfl ev k rfl rfl (hlt)) ?_
      simp only [Act.put, lzA, lzB, lzC]
      refine wt_allocVa (o := ⟨_, _, _, _, _, _⟩) (by rfl) rfl (fun v3 g3 hg G3 kb => ?_)
      simp only [Act.put, lzA, lzB, lzC]
      have ge_g3 : w.heap.size ≤ g3 := Nat.le_trans D.size hg
      clear hg
      replace D := PutR.on hB D kb
      replace HB := HB.on kb
      clear kb
      replace G3 : v3.heap[g3]? = some (.cells #[.int .i64 0, .int .i64 0, .string (bs ([]))] 42 (0, 0)) := G3
      refine wt_putVa (o := ⟨_, _, _, _, _, _⟩) rfl _ _ rfl _ rfl ((EvV.get ev k)) rfl G3 rfl (fun v4 X kg => ?_)
      simp only [Act.put, lzA, lzB, lzC]
      replace D := PutR.new hB D ge_g3 kg
      replace HB := BW.gr HB kg G3 (by decide) (by decide)
      clear kg
      replace G3 : v4.heap[g3]? = some (.cells #[.int .i64 (((EvV.get ev k)).1), .int .i64 (((EvV.get ev k)).2.1), .string ((EvV.get ev k)).2.2] 42 (0, 0)) := X
      clear X
      refine wpList_nil ?_
      refine hK8 _ _ ?_
      clear hK8 K8
      refine wp_region_lit ?_
      refine wl_yield (o := ⟨_, _, _, _, _, _⟩) (vVal ((EvV.get ev k))) (yl_val (by rfl) _ rfl _ 0 rfl _ _ _ (fun _ h => by subst h; exact ⟨cell_heap G3 0, cell_heap G3 1, cell_heap G3 2⟩)) ?_
      simp only [Act.put, lzA, lzB, lzC]
      refine wt_call (o := ⟨_, _, _, _, _, _⟩) (by rfl) 69 _ _ rfl #[.pointer (some ⟨g2, 0, none⟩), vVal ((EvV.get ev k))] rfl (run_call Tryz.func69 (by kernel_rfl) (by kernel_rfl)) ?_
      refine (putValue_any w.heap.size g2 ((EvV.get ev k)) _ _ HB (Nat.le_trans hB D.size) (by have q1 := evP_le hok k (by omega); omega) (okEv_get hok k hlt)).mono ?_
      rintro r v5 (⟨rfl, hb, kp⟩)
      · replace G3 := PutR.keep kp G3 (by decide) (by decide)
        replace D := D.trans kp
        replace HB := hb
        clear hb kp
        refine Or.inl ⟨.tuple #[], rfl, ?_⟩
        simp only [Act.put, lzA, lzB, lzC]
        refine wpList_nil ?_
        refine hK7 _ _ ?_
        clear hK7 K7
        refine wp_region_lit ?_
        refine wl_yield (o := ⟨_, _, _, _, _, _⟩) (.int .i64 (k + 1 : Nat)) (yt_addI (by rfl) _ _ _ rfl (((k : Nat) : Int)) 1 (((k + 1 : Nat) : Int)) rfl rfl (by omega) (by omega) (by omega)) ?_
        simp only [Act.put, lzA, lzB, lzC]
        refine wl_yield (o := ⟨_, _, _, _, _, _⟩) (.int .i64 (k + 1 : Nat)) (yl_move (by rfl) _ rfl _ rfl) ?_
        simp only [Act.put, lzA, lzB, lzC]
        refine wpList_nil ?_
        show _ ∧ _
        go_roundw
        case rel => exact ⟨k + 1, rfl, by omega, by rw [evP_step]; exact HB, D⟩
        case measure => simp [intOf]; omega
    · obtain rfl : k = 4 := by omega
      refine wp_seq_k (fun K5 hK5 => ?_)
      refine wp_region_lit ?_
      refine wl_yield (o := ⟨_, _, _, _, _, _⟩) (.bool false) (yt_lssI (by rfl) _ _ _ rfl 4 4 false rfl rfl (by decide)) ?_
      simp only [Act.put, lzA, lzB, lzC]
      refine wpList_nil ?_
      refine hK5 _ _ ?_
      clear hK5 K5
      refine wp_seq_k (fun K6 hK6 => ?_)
      refine wp_cond_false rfl ?_
      refine wp_exit ?_
      refine hK3 _ _ ?_
      clear hK6 K6 hK3 K3
      refine wp_seq_k (fun K7 hK7 => ?_)
      refine wp_region_lit ?_
      refine wt_call (o := ⟨_, _, _, _, _, _⟩) (by rfl) 66 _ _ rfl #[.pointer (some ⟨g2, 0, none⟩)] rfl (run_call Tryz.func66 (by kernel_rfl) (by kernel_rfl)) ?_
      refine (builderString_any w.heap.size g2 _ _ HB D.size).mono ?_
      rintro r v3 (⟨rfl, kB⟩)
      · have D := D.b.trans kB
        refine Or.inl ⟨.string (bs (evP ev 4)), rfl, ?_⟩
        simp only [Act.put, lzA, lzB, lzC]
        refine wl_yield (o := ⟨_, _, _, _, _, _⟩) (.string (bs (evP ev 4))) (yl_assign (by rfl) _ rfl _ rfl) ?_
        simp only [Act.put, lzA, lzB, lzC]
        refine wpList_nil ?_
        refine hK7 _ _ ?_
        clear hK7 K7
        refine wp_ret ?_
        rw [evP_all] at *
        go_ret
        exact ⟨rfl, D⟩
end Go.Proofs.YtlmdcaemjaldfaaGreat
namespace Go.Proofs.YtlmdcaemjaldfaaGreat
open Go.RowKit
theorem few_good {l : List BoxV} (h : ∀ b ∈ l, MidB b) : ∀ c ∈ l, GoodB c := fun c hc => (h c hc).good
set_option maxHeartbeats 4000000 in
set_option maxRecDepth 100000 in
theorem refRight6_all (v : Value) (l : List BoxV) (w : World) (hv : Bxs w v l) (fl0 : l.all (fun b => smallBx b && rightBx b) = true → ∀ b ∈ l, MidB b) :
    Calls Tryz.prog 22 #[v] w fun r w' => r = .returned (.bool (rightF l)) ∧ Below w.heap.size w w' := by
  obtain ⟨cs, hr, ha⟩ := hv
  have hbig := hr.1
  have hcl := ha.1
  obtain ⟨q, cp, rfl⟩ := hr.form
  have D := Below.refl w.heap.size w
  go_enter Tryz.func22, Tryz.ntmps22
  refine wp_seq_k (fun K1 hK1 => ?_)
  refine wp_region_lit ?_
  refine wl_yield (o := ⟨_, _, _, _, _, _⟩) (.bool false) (yl_assign (by rfl) _ rfl _ rfl) ?_
  simp only [Act.put, lzA, lzB, lzC]
  refine wpList_nil ?_
  refine hK1 _ _ ?_
  clear hK1 K1
  refine wp_seq_k (fun K2 hK2 => ?_)
  refine wp_seq_k (fun K3 hK3 => ?_)
  refine wp_region_lit ?_
  refine wl_yield (o := ⟨_, _, _, _, _, _⟩) (.int .i64 0) (yl_assign (by rfl) _ rfl _ rfl) ?_
  simp only [Act.put, lzA, lzB, lzC]
  refine wpList_nil ?_
  refine hK3 _ _ ?_
  clear hK3 K3
  refine wp_block ?_
  go_loopw [3] (fun i wr => ∃ k : Nat, i = .int .i64 k ∧ k ≤ cs.length ∧ (∀ j, j < k → (smallBx (l.getD j zBox) && rightBx (l.getD j zBox)) = true) ∧ Below w.heap.size w wr) (fun i _ => cs.length - (intOf i).toNat)
  case atStart => exact ⟨0, rfl, by omega, fun j h => by omega, D⟩
  case round =>
    clear D
    obtain ⟨k, rfl, hk, hF, D⟩ := hrel
    by_cases hlt : k < cs.length
    · have hkl : k < l.length := by rw [← ha.1]; exact hlt
      obtain ⟨g, off, rfl, HC⟩ := (hr.on D).at.2 k hlt
      have hb := ha.2 k hkl
      refine wp_seq_k (fun K4 hK4 => ?_)
      refine wp_seq_k (fun K5 hK5 => ?_)
      refine wp_region_lit ?_
      refine wl_yield (o := ⟨_, _, _, _, _, _⟩) (.int .i64 (k : Nat)) (yl_move (by rfl) _ rfl _ rfl) ?_
      simp only [Act.put, lzA, lzB, lzC]
      refine wl_yield (o := ⟨_, _, _, _, _, _⟩) (.slice (some ⟨g, off, none⟩) cs.length cp) (yl_move (by rfl) _ rfl _ rfl) ?_
      simp only [Act.put, lzA, lzB, lzC]
      refine wl_yield (o := ⟨_, _, _, _, _, _⟩) (.int .i64 (cs.length : Nat)) (yl_lenB (by rfl) _ rfl _ _ _ rfl) ?_
      simp only [Act.put, lzA, lzB, lzC]
      refine wl_yield (o := ⟨_, _, _, _, _, _⟩) (.bool true) (yl_lssI (by rfl) _ _ _ rfl (((k : Nat) : Int)) (((cs.length : Nat) : Int)) true rfl rfl (decide_eq_true (by omega))) ?_
      simp only [Act.put, lzA, lzB, lzC]
      refine wpList_nil ?_
      refine hK5 _ _ ?_
      clear hK5 K5
      refine wp_cond_true rfl ?_
      refine wp_skip ?_
      refine hK4 _ _ ?_
      clear hK4 K4
      refine wp_seq_k (fun K6 hK6 => ?_)
      refine wp_block ?_
      refine wp_seq_k (fun K7 hK7 => ?_)
      refine wp_region_lit ?_
      refine wl_yield (o := ⟨_, _, _, _, _, _⟩) (.slice (some ⟨g, off, none⟩) cs.length cp) (yl_move (by rfl) _ rfl _ rfl) ?_
      simp only [Act.put, lzA, lzB, lzC]
      refine wl_yield (o := ⟨_, _, _, _, _, _⟩) (.int .i64 (k : Nat)) (yl_move (by rfl) _ rfl _ rfl) ?_
      simp only [Act.put, lzA, lzB, lzC]
      refine wl_yield (o := ⟨_, _, _, _, _, _⟩) (.pointer (some ⟨g, off + k * 16, none⟩)) (yl_bxAt (by rfl) _ _ rfl g (off) _ _ (k) rfl rfl (hlt)) ?_
      simp only [Act.put, lzA, lzB, lzC]
      refine wl_yield (o := ⟨_, _, _, _, _, _⟩) (BxC.val (cs.getD k bc0)) (yl_bx (by rfl) _ rfl _ _ rfl _ (fun _ h => by subst h; exact HC)) ?_
      simp only [Act.put, lzA, lzB, lzC]
      refine wl_call (o := ⟨_, _, _, _, _, _⟩) (by rfl) 58 _ _ rfl #[BxC.val (cs.getD k bc0)] rfl (run_call Tryz.func58 (by kernel_rfl) (by kernel_rfl)) ?_
      refine (refRightBx_any _ (l.getD k zBox) _ (hb.on D)).mono ?_
      rintro r v1 ⟨rfl, kb⟩
      replace D := D.trans (kb.mono D.size)
      replace HC := HC.on kb
      clear kb
      cases hq2 : rightBx (l.getD k zBox)
      · refine ⟨.bool false, rfl, ?_⟩
        simp only [Act.put, lzA, lzB, lzC]
        refine wl_yield (o := ⟨_, _, _, _, _, _⟩) (.bool true) (yl_not (by rfl) _ _ rfl false rfl) ?_
        simp only [Act.put, lzA, lzB, lzC]
        refine wl_yield (o := ⟨_, _, _, _, _, _⟩) (.bool true) (yl_move (by rfl) _ rfl _ rfl) ?_
        simp only [Act.put, lzA, lzB, lzC]
        with_reducible refine wl_yield (o := ⟨_, _, _, _, _, _⟩) undef (yl_undef (by kernel_rfl)) ?_
        simp only [Act.put, lzA, lzB, lzC]
        with_reducible refine wl_yield (o := ⟨_, _, _, _, _, _⟩) undef (yl_undef (by kernel_rfl)) ?_
        simp only [Act.put, lzA, lzB, lzC]
        with_reducible refine wl_yield (o := ⟨_, _, _, _, _, _⟩) undef (yl_undef (by kernel_rfl)) ?_
        simp only [Act.put, lzA, lzB, lzC]
        with_reducible refine wl_yield (o := ⟨_, _, _, _, _, _⟩) undef (yl_undef (by kernel_rfl)) ?_
        simp only [Act.put, lzA, lzB, lzC]
        with_reducible refine wl_yield (o := ⟨_, _, _, _, _, _⟩) undef (yl_undef (by kernel_rfl)) ?_
        simp only [Act.put, lzA, lzB, lzC]
        with_reducible refine wl_yield (o := ⟨_, _, _, _, _, _⟩) undef (yl_undef (by kernel_rfl)) ?_
        simp only [Act.put, lzA, lzB, lzC]
        refine wl_yield (o := ⟨_, _, _, _, _, _⟩) (.bool true) (yl_pickT (by rfl) _ _ _ rfl rfl _ rfl) ?_
        simp only [Act.put, lzA, lzB, lzC]
        refine wpList_nil ?_
        refine hK7 _ _ ?_
        clear hK7 K7
        refine wp_cond_true rfl ?_
        refine wp_seq_k (fun K8 hK8 => ?_)
        refine wp_region_lit ?_
        refine wl_yield (o := ⟨_, _, _, _, _, _⟩) (.bool false) (yl_assign (by rfl) _ rfl _ rfl) ?_
        simp only [Act.put, lzA, lzB, lzC]
        refine wpList_nil ?_
        refine hK8 _ _ ?_
        clear hK8 K8
        refine wp_ret ?_
        go_ret
        exact ⟨by unfold rightF; rw [show l.all (fun b => smallBx b && rightBx b) = false from List.all_eq_false.2 ⟨_, getB_mem hkl, by rw [hq2]; simp⟩, Bool.false_and, Bool.and_false]; rfl, D⟩
      · refine ⟨.bool true, rfl, ?_⟩
        simp only [Act.put, lzA, lzB, lzC]
        refine wl_yield (o := ⟨_, _, _, _, _, _⟩) (.bool false) (yl_not (by rfl) _ _ rfl true rfl) ?_
        simp only [Act.put, lzA, lzB, lzC]
        refine wl_yield (o := ⟨_, _, _, _, _, _⟩) (.bool false) (yl_move (by rfl) _ rfl _ rfl) ?_
        simp only [Act.put, lzA, lzB, lzC]
        refine wl_yield (o := ⟨_, _, _, _, _, _⟩) (.slice (some ⟨g, off, none⟩) cs.length cp) (yl_move (by rfl) _ rfl _ rfl) ?_
        simp only [Act.put, lzA, lzB, lzC]
        refine wl_yield (o := ⟨_, _, _, _, _, _⟩) (.int .i64 (k : Nat)) (yl_move (by rfl) _ rfl _ rfl) ?_
        simp only [Act.put, lzA, lzB, lzC]
        refine wl_yield (o := ⟨_, _, _, _, _, _⟩) (.pointer (some ⟨g, off + k * 16, none⟩)) (yl_bxAt (by rfl) _ _ rfl g (off) _ _ (k) rfl rfl (hlt)) ?_
        simp only [Act.put, lzA, lzB, lzC]
        refine wl_yield (o := ⟨_, _, _, _, _, _⟩) (BxC.val (cs.getD k bc0)) (yl_bx (by rfl) _ rfl _ _ rfl _ (fun _ h => by subst h; exact HC)) ?_
        simp only [Act.put, lzA, lzB, lzC]
        refine wl_call (o := ⟨_, _, _, _, _, _⟩) (by rfl) 59 _ _ rfl #[BxC.val (cs.getD k bc0)] rfl (run_call Tryz.func59 (by kernel_rfl) (by kernel_rfl)) ?_
        refine (refSmallBx_any (cs.getD k bc0) (l.getD k zBox) _ (hb.on D)).mono ?_
        rintro r v2 ⟨rfl, kb⟩
        replace D := D.trans (kb.mono D.size)
        replace HC := HC.on kb
        clear kb
        cases hq1 : smallBx (l.getD k zBox)
        · refine ⟨.bool false, rfl, ?_⟩
          simp only [Act.put, lzA, lzB, lzC]
          refine wl_yield (o := ⟨_, _, _, _, _, _⟩) (.bool true) (yl_not (by rfl) _ _ rfl false rfl) ?_
          simp only [Act.put, lzA, lzB, lzC]
          refine wl_yield (o := ⟨_, _, _, _, _, _⟩) (.bool true) (yl_pickF (by rfl) _ _ _ rfl rfl _ rfl) ?_
          simp only [Act.put, lzA, lzB, lzC]
          refine wpList_nil ?_
          refine hK7 _ _ ?_
          clear hK7 K7
          refine wp_cond_true rfl ?_
          refine wp_seq_k (fun K8 hK8 => ?_)
          refine wp_region_lit ?_
          refine wl_yield (o := ⟨_, _, _, _, _, _⟩) (.bool false) (yl_assign (by rfl) _ rfl _ rfl) ?_
          simp only [Act.put, lzA, lzB, lzC]
          refine wpList_nil ?_
          refine hK8 _ _ ?_
          clear hK8 K8
          refine wp_ret ?_
          go_ret
          exact ⟨by unfold rightF; rw [show l.all (fun b => smallBx b && rightBx b) = false from List.all_eq_false.2 ⟨_, getB_mem hkl, by rw [hq1, hq2]; simp⟩, Bool.false_and, Bool.and_false]; rfl, D⟩
        · refine ⟨.bool true, rfl, ?_⟩
          simp only [Act.put, lzA, lzB, lzC]
          refine wl_yield (o := ⟨_, _, _, _, _, _⟩) (.bool false) (yl_not (by rfl) _ _ rfl true rfl) ?_
          simp only [Act.put, lzA, lzB, lzC]
          refine wl_yield (o := ⟨_, _, _, _, _, _⟩) (.bool false) (yl_pickF (by rfl) _ _ _ rfl rfl _ rfl) ?_
          simp only [Act.put, lzA, lzB, lzC]
          refine wpList_nil ?_
          refine hK7 _ _ ?_
          clear hK7 K7
          refine wp_cond_false rfl ?_
          refine wp_skip ?_
          refine hK6 _ _ ?_
          clear hK6 K6
          refine wp_region_lit ?_
          refine wl_yield (o := ⟨_, _, _, _, _, _⟩) (.int .i64 (k : Nat)) (yl_move (by rfl) _ rfl _ rfl) ?_
          simp only [Act.put, lzA, lzB, lzC]
          refine wl_yield (o := ⟨_, _, _, _, _, _⟩) (.int .i64 (k + 1 : Nat)) (yl_addI (by rfl) _ _ _ rfl (((k : Nat) : Int)) (1) (((k + 1 : Nat) : Int)) rfl rfl (by omega) (by omega) (by omega)) ?_
          simp only [Act.put, lzA, lzB, lzC]
          refine wl_yield (o := ⟨_, _, _, _, _, _⟩) (.int .i64 (k + 1 : Nat)) (yl_assign (by rfl) _ rfl _ rfl) ?_
          simp only [Act.put, lzA, lzB, lzC]
          refine wpList_nil ?_
          show _ ∧ _
          go_roundw
          case rel => exact ⟨k + 1, rfl, by omega, fun j hj => by
            rcases Nat.lt_succ_iff_lt_or_eq.1 hj with h | rfl
            · exact hF j h
            · rw [hq1, hq2]; rfl, D⟩
          case measure => simp [intOf]; omega
    · have hall : l.all (fun b => smallBx b && rightBx b) = true := List.all_eq_true.2 fun b hb => by
        obtain ⟨i, hi, rfl⟩ := List.getElem_of_mem hb
        have := hF i (by omega)
        rwa [List.getD_eq_getElem?_getD, List.getElem?_eq_getElem hi] at this
      have fl := fl0 hall
      by_cases h4 : cs.length ≤ 4
      · refine wp_seq_k (fun K4 hK4 => ?_)
        refine wp_seq_k (fun K5 hK5 => ?_)
        refine wp_region_lit ?_
        refine wl_yield (o := ⟨_, _, _, _, _, _⟩) (.int .i64 (k : Nat)) (yl_move (by rfl) _ rfl _ rfl) ?_
        simp only [Act.put, lzA, lzB, lzC]
        refine wl_yield (o := ⟨_, _, _, _, _, _⟩) (.slice q cs.length cp) (yl_move (by rfl) _ rfl _ rfl) ?_
        simp only [Act.put, lzA, lzB, lzC]
        refine wl_yield (o := ⟨_, _, _, _, _, _⟩) (.int .i64 (cs.length : Nat)) (yl_lenB (by rfl) _ rfl _ _ _ rfl) ?_
        simp only [Act.put, lzA, lzB, lzC]
        refine wl_yield (o := ⟨_, _, _, _, _, _⟩) (.bool false) (yl_lssI (by rfl) _ _ _ rfl (((k : Nat) : Int)) (((cs.length : Nat) : Int)) false rfl rfl (decide_eq_false (by omega))) ?_
        simp only [Act.put, lzA, lzB, lzC]
        refine wpList_nil ?_
        refine hK5 _ _ ?_
        clear hK5 K5
        refine wp_cond_false rfl ?_
        refine wp_exit ?_
        refine hK2 _ _ ?_
        clear hK4 K4 hK2 K2
        refine wp_seq_k (fun K6 hK6 => ?_)
        refine wp_region_lit ?_
        refine wl_yield (o := ⟨_, _, _, _, _, _⟩) (.slice q cs.length cp) (yl_move (by rfl) _ rfl _ rfl) ?_
        simp only [Act.put, lzA, lzB, lzC]
        refine wl_yield (o := ⟨_, _, _, _, _, _⟩) (.int .i64 (cs.length : Nat)) (yl_lenB (by rfl) _ rfl _ _ _ rfl) ?_
        simp only [Act.put, lzA, lzB, lzC]
        refine wl_yield (o := ⟨_, _, _, _, _, _⟩) (.bool true) (yl_leqI (by rfl) _ _ _ rfl (((cs.length : Nat) : Int)) (4) true rfl rfl (decide_eq_true (by omega))) ?_
        simp only [Act.put, lzA, lzB, lzC]
        refine wl_yield (o := ⟨_, _, _, _, _, _⟩) (.bool true) (yl_move (by rfl) _ rfl _ rfl) ?_
        simp only [Act.put, lzA, lzB, lzC]
        refine wl_yield (o := ⟨_, _, _, _, _, _⟩) (.slice q cs.length cp) (yl_move (by rfl) _ rfl _ rfl) ?_
        simp only [Act.put, lzA, lzB, lzC]
        refine wl_call (o := ⟨_, _, _, _, _, _⟩) (by rfl) 60 _ _ rfl #[.slice q cs.length cp] rfl (run_call Tryz.func60 (by kernel_rfl) (by kernel_rfl)) ?_
        refine (refTidy_any _ l _ (⟨cs, hr.on D, ha.on D⟩) fl (by omega)).mono ?_
        rintro r v1 ⟨⟨u1, ks, rfl, hO, hA⟩, kb⟩
        replace D := D.trans (kb.mono D.size)
        clear kb
        obtain ⟨q1, c1, rfl⟩ := hO.sl
        refine ⟨.slice q1 ks.length c1, rfl, ?_⟩
        simp only [Act.put, lzA, lzB, lzC]
        refine wl_yield (o := ⟨_, _, _, _, _, _⟩) (.int .i64 (ks.length : Nat)) (yl_lenB (by rfl) _ rfl _ _ _ rfl) ?_
        simp only [Act.put, lzA, lzB, lzC]
        refine wl_yield (o := ⟨_, _, _, _, _, _⟩) (.slice q cs.length cp) (yl_move (by rfl) _ rfl _ rfl) ?_
        simp only [Act.put, lzA, lzB, lzC]
        refine wl_yield (o := ⟨_, _, _, _, _, _⟩) (.int .i64 (cs.length : Nat)) (yl_lenB (by rfl) _ rfl _ _ _ rfl) ?_
        simp only [Act.put, lzA, lzB, lzC]
        refine wl_yield (o := ⟨_, _, _, _, _, _⟩) (.bool (decide (ks.length = cs.length))) (yl_eqlI (by rfl) _ _ _ rfl (((ks.length : Nat) : Int)) (((cs.length : Nat) : Int)) (decide (ks.length = cs.length)) rfl rfl (by rw [decide_eq_decide]; omega)) ?_
        simp only [Act.put, lzA, lzB, lzC]
        refine wl_yield (o := ⟨_, _, _, _, _, _⟩) (.bool (decide (ks.length = cs.length))) (yl_pickT (by rfl) _ _ _ rfl rfl _ rfl) ?_
        simp only [Act.put, lzA, lzB, lzC]
        refine wl_yield (o := ⟨_, _, _, _, _, _⟩) (.bool (decide (ks.length = cs.length))) (yl_assign (by rfl) _ rfl _ rfl) ?_
        simp only [Act.put, lzA, lzB, lzC]
        refine wpList_nil ?_
        refine hK6 _ _ ?_
        clear hK6 K6
        refine wp_ret ?_
        go_ret
        exact ⟨by unfold rightF; rw [decide_eq_true (show l.length ≤ 4 by omega), hall, tidP_eq (few_good fl), ← hA.1, ← ha.1]; rfl, D⟩
      · refine wp_seq_k (fun K4 hK4 => ?_)
        refine wp_seq_k (fun K5 hK5 => ?_)
        refine wp_region_lit ?_
        refine wl_yield (o := ⟨_, _, _, _, _, _⟩) (.int .i64 (k : Nat)) (yl_move (by rfl) _ rfl _ rfl) ?_
        simp only [Act.put, lzA, lzB, lzC]
        refine wl_yield (o := ⟨_, _, _, _, _, _⟩) (.slice q cs.length cp) (yl_move (by rfl) _ rfl _ rfl) ?_
        simp only [Act.put, lzA, lzB, lzC]
        refine wl_yield (o := ⟨_, _, _, _, _, _⟩) (.int .i64 (cs.length : Nat)) (yl_lenB (by rfl) _ rfl _ _ _ rfl) ?_
        simp only [Act.put, lzA, lzB, lzC]
        refine wl_yield (o := ⟨_, _, _, _, _, _⟩) (.bool false) (yl_lssI (by rfl) _ _ _ rfl (((k : Nat) : Int)) (((cs.length : Nat) : Int)) false rfl rfl (decide_eq_false (by omega))) ?_
        simp only [Act.put, lzA, lzB, lzC]
        refine wpList_nil ?_
        refine hK5 _ _ ?_
        clear hK5 K5
        refine wp_cond_false rfl ?_
        refine wp_exit ?_
        refine hK2 _ _ ?_
        clear hK4 K4 hK2 K2
        refine wp_seq_k (fun K6 hK6 => ?_)
        refine wp_region_lit ?_
        refine wl_yield (o := ⟨_, _, _, _, _, _⟩) (.slice q cs.length cp) (yl_move (by rfl) _ rfl _ rfl) ?_
        simp only [Act.put, lzA, lzB, lzC]
        refine wl_yield (o := ⟨_, _, _, _, _, _⟩) (.int .i64 (cs.length : Nat)) (yl_lenB (by rfl) _ rfl _ _ _ rfl) ?_
        simp only [Act.put, lzA, lzB, lzC]
        refine wl_yield (o := ⟨_, _, _, _, _, _⟩) (.bool false) (yl_leqI (by rfl) _ _ _ rfl (((cs.length : Nat) : Int)) (4) false rfl rfl (decide_eq_false (by omega))) ?_
        simp only [Act.put, lzA, lzB, lzC]
        refine wl_yield (o := ⟨_, _, _, _, _, _⟩) (.bool false) (yl_move (by rfl) _ rfl _ rfl) ?_
        simp only [Act.put, lzA, lzB, lzC]
        with_reducible refine wl_yield (o := ⟨_, _, _, _, _, _⟩) undef (yl_undef (by kernel_rfl)) ?_
        simp only [Act.put, lzA, lzB, lzC]
        with_reducible refine wl_yield (o := ⟨_, _, _, _, _, _⟩) undef (yl_undef (by kernel_rfl)) ?_
        simp only [Act.put, lzA, lzB, lzC]
        with_reducible refine wl_yield (o := ⟨_, _, _, _, _, _⟩) undef (yl_undef (by kernel_rfl)) ?_
        simp only [Act.put, lzA, lzB, lzC]
        with_reducible refine wl_yield (o := ⟨_, _, _, _, _, _⟩) undef (yl_undef (by kernel_rfl)) ?_
        simp only [Act.put, lzA, lzB, lzC]
        with_reducible refine wl_yield (o := ⟨_, _, _, _, _, _⟩) undef (yl_undef (by kernel_rfl)) ?_
        simp only [Act.put, lzA, lzB, lzC]
        with_reducible refine wl_yield (o := ⟨_, _, _, _, _, _⟩) undef (yl_undef (by kernel_rfl)) ?_
        simp only [Act.put, lzA, lzB, lzC]
        refine wl_yield (o := ⟨_, _, _, _, _, _⟩) (.bool false) (yl_pickF (by rfl) _ _ _ rfl rfl _ rfl) ?_
        simp only [Act.put, lzA, lzB, lzC]
        refine wl_yield (o := ⟨_, _, _, _, _, _⟩) (.bool false) (yl_assign (by rfl) _ rfl _ rfl) ?_
        simp only [Act.put, lzA, lzB, lzC]
        refine wpList_nil ?_
        refine hK6 _ _ ?_
        clear hK6 K6
        refine wp_ret ?_
        go_ret
        exact ⟨by unfold rightF; rw [decide_eq_false (show ¬ l.length ≤ 4 by omega), Bool.false_and]; rfl, D⟩
end Go.Proofs.YtlmdcaemjaldfaaGreat
namespace Go.Proofs.YtlmdcaemjaldfaaGreat
open Go.RowKit
theorem bxs_parts {w : World} {v : Value} {f : List BoxV} (h : Bxs w v f) : ∃ (p : Option Addr) (c : Nat) (cs : List BxC), v = .slice p f.length c ∧ ∀ W, Below w.heap.size w W → ∀ k, k < f.length → ∃ g off, p = some ⟨g, off, none⟩ ∧ BcAt W g (off + k * 16) (cs.getD k bc0) ∧ BoxAt W (cs.getD k bc0).val (f.getD k zBox) := by
  obtain ⟨cs, hr, ha⟩ := h
  obtain ⟨p, c, rfl⟩ := hr.form
  refine ⟨p, c, cs, by rw [ha.1], fun W hb k hk => ?_⟩
  obtain ⟨g, off, e, h1⟩ := hr.at.2 k (by rw [ha.1]; exact hk)
  exact ⟨g, off, e, h1.on hb, (ha.2 k hk).on hb⟩
theorem Bxs.i64 {w : World} {v : Value} {l : List BoxV} (h : Bxs w v l) : ∀ b ∈ l, ∀ i, i < 4 → inI64 (b.get i).ints := fun b hb => by
  obtain ⟨cs, _, ha⟩ := h
  obtain ⟨i, hi, rfl⟩ := List.getElem_of_mem hb
  have := ha.2 i hi
  rw [List.getD_eq_getElem?_getD, List.getD_eq_getElem?_getD, List.getElem?_eq_getElem hi] at this
  exact this.i64
theorem right_ok {f : List BoxV} (h : rightF f = true) (hi : ∀ b ∈ f, ∀ i, i < 4 → inI64 (b.get i).ints) : rightF f = true ∧ f.length ≤ 4 ∧ ∀ b ∈ f, okBx b := by
  refine ⟨h, ?_⟩
  unfold rightF at h
  rw [Bool.and_eq_true, Bool.and_eq_true, List.all_eq_true, decide_eq_true_eq] at h
  refine ⟨h.1, fun b hb => ?_⟩
  have hq := h.2.1 b hb
  rw [Bool.and_eq_true] at hq
  have key : ∀ i, i < 4 → okSt (b.get i) := fun i h4 => by
    have h1 := (all4_iff _).1 hq.1 i h4
    unfold smallB at h1
    rw [Bool.and_eq_true, decide_eq_true_eq, decide_eq_true_eq] at h1
    have h2 := (rightSet_iff _).1 ((all4_iff _).1 hq.2 i h4)
    exact ⟨⟨h1.1, fun r hr => ⟨⟨(hi b hb i h4 r hr).1, (hi b hb i h4 r hr).2.1⟩, (hi b hb i h4 r hr).2.2.1, (hi b hb i h4 r hr).2.2.2⟩⟩, h1.2, h2.2.1⟩
  exact ⟨key 0 (by decide), key 1 (by decide), key 2 (by decide), key 3 (by decide)⟩
theorem right_ev {e : EvV} (h : rightE e = true) (hi : inE e) : okEv e := by
  have key : ∀ i, i < 4 → okVa (e.get i) := fun i h4 => ⟨(all4_iff _).1 h i h4, hi i h4⟩
  exact ⟨key 0 (by decide), key 1 (by decide), key 2 (by decide), key 3 (by decide)⟩
set_option maxHeartbeats 4000000 in
set_option maxRecDepth 100000 in
theorem putFilter_one (f : List BoxV) (p : Option Addr) (c : Nat) (cs : List BxC) (w : World) (hok : ∀ b ∈ f, okBx b) (hl : f.length ≤ 4) (hp : ∀ W, Below w.heap.size w W → ∀ k, k < f.length → ∃ g off, p = some ⟨g, off, none⟩ ∧ BcAt W g (off + k * 16) (cs.getD k bc0) ∧ BoxAt W (cs.getD k bc0).val (f.getD k zBox)) :
    Calls Tryz.prog 25 #[.slice p f.length c] w fun e w' => e = .returned (.string (bs (filB f))) ∧ Below w.heap.size w w' := by
  have hB : w.heap.size ≤ w.heap.size := Nat.le_refl _
  have D : PutR w.heap.size w w := PutR.refl _ _
  have hen := enc_len_le f.length (by omega)
  go_enter Tryz.func25, Tryz.ntmps25
  refine wp_seq_k (fun K1 hK1 => ?_)
  refine wp_region_lit ?_
  refine wl_yield (o := ⟨_, _, _, _, _, _⟩) (.string (bs ([]))) (yl_assign (by rfl) _ rfl _ rfl) ?_
  simp only [Act.put, lzA, lzB, lzC]
  refine wpList_nil ?_
  refine hK1 _ _ ?_
  clear hK1 K1
  refine wp_seq_k (fun K2 hK2 => ?_)
  refine wp_region_lit ?_
  refine wt_allocBu (o := ⟨_, _, _, _, _, _⟩) (by rfl) rfl (B := w.heap.size) D.size (fun v1 g1 hg HB kb => ?_)
  simp only [Act.put, lzA, lzB, lzC]
  have hgl := BW.lt HB
  clear hgl
  replace D := PutR.on hB D kb
  clear kb
  clear hg
  refine wpList_nil ?_
  refine hK2 _ _ ?_
  clear hK2 K2
  refine wp_seq_k (fun K3 hK3 => ?_)
  refine wp_region_lit ?_
  refine wl_yield (o := ⟨_, _, _, _, _, _⟩) (.slice p f.length c) (yl_move (by rfl) _ rfl _ rfl) ?_
  simp only [Act.put, lzA, lzB, lzC]
  refine wl_yield (o := ⟨_, _, _, _, _, _⟩) (.int .i64 (f.length : Nat)) (yl_lenF (by rfl) _ rfl p f.length c rfl) ?_
  simp only [Act.put, lzA, lzB, lzC]
  refine wt_call (o := ⟨_, _, _, _, _, _⟩) (by rfl) 64 _ _ rfl #[.pointer (some ⟨g1, 0, none⟩), .int .i64 (f.length : Nat)] rfl (run_call Tryz.func64 (by kernel_rfl) (by kernel_rfl)) ?_
  refine (putCount_any w.heap.size g1 f.length _ _ HB (Nat.le_trans hB D.size) (by (try simp only [List.length_append, List.length_nil]); first | omega | (have q1 := fil_le hok hl k; first | omega | (have q2 := bxP_le (hok _ (getD_memA f zBox k hlt)) j (by omega); omega))) (by omega)).mono ?_
  rintro r v2 (⟨rfl, hb, kp⟩)
  · replace D := D.trans kp
    replace HB := hb
    clear hb kp
    refine Or.inl ⟨.tuple #[], rfl, ?_⟩
    simp only [Act.put, lzA, lzB, lzC]
    refine wpList_nil ?_
    refine hK3 _ _ ?_
    clear hK3 K3
    refine wp_seq_k (fun K4 hK4 => ?_)
    refine wp_seq_k (fun K5 hK5 => ?_)
    refine wp_region_lit ?_
    refine wl_yield (o := ⟨_, _, _, _, _, _⟩) (.slice p f.length c) (yl_move (by rfl) _ rfl _ rfl) ?_
    simp only [Act.put, lzA, lzB, lzC]
    refine wl_yield (o := ⟨_, _, _, _, _, _⟩) (.int .i64 (f.length : Nat)) (yl_lenF (by rfl) _ rfl p f.length c rfl) ?_
    simp only [Act.put, lzA, lzB, lzC]
    refine wl_yield (o := ⟨_, _, _, _, _, _⟩) (.int .i64 0) (yl_move (by rfl) _ rfl _ rfl) ?_
    simp only [Act.put, lzA, lzB, lzC]
    refine wpList_nil ?_
    refine hK5 _ _ ?_
    clear hK5 K5
    refine wp_block ?_
    go_loopw [13] (fun i wr => ∃ k : Nat, i = .int .i64 k ∧ k ≤ f.length ∧ BW wr w.heap.size g1 (enc f.length ++ (f.take k).flatMap boxB) ∧ PutR w.heap.size w wr) (fun i _ => f.length - (intOf i).toNat)
    case atStart => exact ⟨0, rfl, Nat.zero_le _, by rw [List.take_zero, List.flatMap_nil, List.append_nil]; exact HB, D⟩
    case round =>
      clear D HB
      obtain ⟨k, rfl, hk, HB, D⟩ := hrel
      by_cases hlt : k < f.length
      · obtain ⟨bI, oI, rfl, HAT, -⟩ := hp _ D.b k hlt
        refine wp_seq_k (fun K6 hK6 => ?_)
        refine wp_region_lit ?_
        refine wl_yield (o := ⟨_, _, _, _, _, _⟩) (.bool true) (yt_lssI (by rfl) _ _ _ rfl (((k : Nat) : Int)) (((f.length : Nat) : Int)) true rfl rfl (decide_eq_true (by omega))) ?_
        simp only [Act.put, lzA, lzB, lzC]
        refine wpList_nil ?_
        refine hK6 _ _ ?_
        clear hK6 K6
        refine wp_seq_k (fun K7 hK7 => ?_)
        refine wp_cond_true rfl ?_
        refine wp_skip ?_
        refine hK7 _ _ ?_
        clear hK7 K7
        refine wp_seq_k (fun K8 hK8 => ?_)
        refine wp_block ?_
        refine wp_seq_k (fun K9 hK9 => ?_)
        refine wp_region_lit ?_
        refine wl_yield (o := ⟨_, _, _, _, _, _⟩) (.pointer (some ⟨bI, oI + k * 16, none⟩)) (yl_fxAt (by rfl) _ _ rfl bI oI _ _ k rfl rfl (hlt)) ?_
        simp only [Act.put, lzA, lzB, lzC]
        refine wl_yield (o := ⟨_, _, _, _, _, _⟩) (BxC.val ((cs.getD k bc0))) (yl_bx (by rfl) _ rfl _ _ rfl (cs.getD k bc0) (fun _ h => by subst h; exact HAT)) ?_
        simp only [Act.put, lzA, lzB, lzC]
        refine wl_newB (o := ⟨_, _, _, _, _, _⟩) (o2 := ⟨_, _, _, _, _, _⟩) (by rfl) rfl _ _ rfl rfl (fun _ => rfl) (fun _ => rfl) (fun v3 g3 hg G3 kb => ?_)
        simp only [Act.put, lzA, lzB, lzC]
        clear hg
        replace D := PutR.on hB D kb
        replace HB := HB.on kb
        clear kb
        refine wpList_nil ?_
        refine hK9 _ _ ?_
        clear hK9 K9
        refine wp_seq_k (fun K10 hK10 => ?_)
        refine wp_region_lit ?_
        refine wl_yield (o := ⟨_, _, _, _, _, _⟩) (BxC.val ((cs.getD k bc0))) (yl_bx (by rfl) _ rfl _ _ rfl ((cs.getD k bc0)) (fun _ h => by subst h; exact BcIn.at G3)) ?_
        simp only [Act.put, lzA, lzB, lzC]
        refine wl_yield (o := ⟨_, _, _, _, _, _⟩) (.int .i64 0) (yl_move (by rfl) _ rfl _ rfl) ?_
        simp only [Act.put, lzA, lzB, lzC]
        refine wpList_nil ?_
        refine hK10 _ _ ?_
        clear hK10 K10
        refine wp_block ?_
        go_loopw [18] (fun i wr => ∃ j : Nat, i = .int .i64 j ∧ j ≤ 4 ∧ BW wr w.heap.size g1 (enc f.length ++ (f.take k).flatMap boxB ++ bxP (f.getD k zBox) j) ∧ PutR w.heap.size w wr) (fun i _ => 4 - (intOf i).toNat)
        case atStart => exact ⟨0, rfl, by omega, (by show BW _ _ _ (_ ++ []); rw [List.append_nil]; exact HB), D⟩
        case round =>
          clear D HB G3
          obtain ⟨j, rfl, hj0, HB, D⟩ := hrel
          by_cases hj : j < 4
          · refine wp_seq_k (fun K11 hK11 => ?_)
            refine wp_region_lit ?_
            refine wl_yield (o := ⟨_, _, _, _, _, _⟩) (.bool true) (yt_lssI (by rfl) _ _ _ rfl (((j : Nat) : Int)) 4 true rfl rfl (decide_eq_true (by omega))) ?_
            simp only [Act.put, lzA, lzB, lzC]
            refine wpList_nil ?_
            refine hK11 _ _ ?_
            clear hK11 K11
            refine wp_seq_k (fun K12 hK12 => ?_)
            refine wp_cond_true rfl ?_
            refine wp_skip ?_
            refine hK12 _ _ ?_
            clear hK12 K12
            refine wp_seq_k (fun K13 hK13 => ?_)
            refine wp_block ?_
            refine wp_seq_k (fun K14 hK14 => ?_)
            refine wp_region_lit ?_
            refine wl_yield (o := ⟨_, _, _, _, _, _⟩) (SC.val ((BxC.sc ((cs.getD k bc0)) j))) (yl_bxIdx (by rfl) _ _ rfl ((cs.getD k bc0)) j rfl rfl (hj)) ?_
            simp only [Act.put, lzA, lzB, lzC]
            refine wt_allocSt (o := ⟨_, _, _, _, _, _⟩) (by rfl) rfl (fun v4 g4 hg G4 kb => ?_)
            simp only [Act.put, lzA, lzB, lzC]
            have ge_g4 : w.heap.size ≤ g4 := Nat.le_trans D.size hg
            clear hg
            replace D := PutR.on hB D kb
            replace HB := HB.on kb
            clear kb
            replace G4 : v4.heap[g4]? = some (.cells #[.bool false, .slice none 0 0, .bool false, .slice none 0 0] 25 (0, 0)) := G4
            refine wt_putSt (o := ⟨_, _, _, _, _, _⟩) rfl _ _ rfl _ rfl ((BxC.sc ((cs.getD k bc0)) j)) rfl G4 rfl (fun v5 X kg => ?_)
            simp only [Act.put, lzA, lzB, lzC]
            replace D := PutR.new hB D ge_g4 kg
            replace HB := BW.gr HB kg G4 (by decide) (by decide)
            clear kg
            replace G4 : v5.heap[g4]? = some (.cells #[.bool (((BxC.sc ((cs.getD k bc0)) j)).a), .slice (((BxC.sc ((cs.getD k bc0)) j)).p) (((BxC.sc ((cs.getD k bc0)) j)).n) (((BxC.sc ((cs.getD k bc0)) j)).c), .bool (((BxC.sc ((cs.getD k bc0)) j)).d), .slice (((BxC.sc ((cs.getD k bc0)) j)).q) (((BxC.sc ((cs.getD k bc0)) j)).m) (((BxC.sc ((cs.getD k bc0)) j)).e)] 25 (0, 0)) := X
            clear X
            refine wpList_nil ?_
            refine hK14 _ _ ?_
            clear hK14 K14
            refine wp_region_lit ?_
            refine wl_yield (o := ⟨_, _, _, _, _, _⟩) (SC.val ((BxC.sc ((cs.getD k bc0)) j))) (yl_set (by rfl) _ rfl _ 0 rfl _ _ _ _ (fun _ h => by subst h; exact ⟨cell_heap G4 0, cell_heap G4 1, cell_heap G4 2, cell_heap G4 3⟩)) ?_
            simp only [Act.put, lzA, lzB, lzC]
            refine wt_call (o := ⟨_, _, _, _, _, _⟩) (by rfl) 65 _ _ rfl #[.pointer (some ⟨g1, 0, none⟩), SC.val ((BxC.sc ((cs.getD k bc0)) j))] rfl (run_call Tryz.func65 (by kernel_rfl) (by kernel_rfl)) ?_
            refine (putSet_any w.heap.size g1 (BxC.sc (cs.getD k bc0) j) (BoxV.get (f.getD k zBox) j) _ _ HB (Nat.le_trans hB D.size) (by (try simp only [List.length_append, List.length_nil]); first | omega | (have q1 := fil_le hok hl k; first | omega | (have q2 := bxP_le (hok _ (getD_memA f zBox k hlt)) j (by omega); omega))) (okBx_get (hok _ (getD_memA f zBox k hlt)) j hj) (fun W D2 => by obtain ⟨_, _, _, _, hx⟩ := hp W (D.b.trans D2.b) k hlt; exact hx.sc j hj)).mono ?_
            rintro r v6 (⟨rfl, hb, kp⟩)
            · replace G4 := PutR.keep kp G4 (by decide) (by decide)
              replace D := D.trans kp
              replace HB := hb
              clear hb kp
              refine Or.inl ⟨.tuple #[], rfl, ?_⟩
              simp only [Act.put, lzA, lzB, lzC]
              refine wpList_nil ?_
              refine hK13 _ _ ?_
              clear hK13 K13
              refine wp_region_lit ?_
              refine wl_yield (o := ⟨_, _, _, _, _, _⟩) (.int .i64 (j + 1 : Nat)) (yt_addI (by rfl) _ _ _ rfl (((j : Nat) : Int)) 1 (((j + 1 : Nat) : Int)) rfl rfl (by omega) (by omega) (by omega)) ?_
              simp only [Act.put, lzA, lzB, lzC]
              refine wl_yield (o := ⟨_, _, _, _, _, _⟩) (.int .i64 (j + 1 : Nat)) (yl_move (by rfl) _ rfl _ rfl) ?_
              simp only [Act.put, lzA, lzB, lzC]
              refine wpList_nil ?_
              show _ ∧ _
              go_roundw
              case rel => exact ⟨j + 1, rfl, by omega, by rw [bxP_step, ← List.append_assoc]; exact HB, D⟩
              case measure => simp [intOf]; omega
          · obtain rfl : j = 4 := by omega
            refine wp_seq_k (fun K11 hK11 => ?_)
            refine wp_region_lit ?_
            refine wl_yield (o := ⟨_, _, _, _, _, _⟩) (.bool false) (yt_lssI (by rfl) _ _ _ rfl 4 4 false rfl rfl (by decide)) ?_
            simp only [Act.put, lzA, lzB, lzC]
            refine wpList_nil ?_
            refine hK11 _ _ ?_
            clear hK11 K11
            refine wp_seq_k (fun K12 hK12 => ?_)
            refine wp_cond_false rfl ?_
            refine wp_exit ?_
            refine hK8 _ _ ?_
            clear hK12 K12 hK8 K8
            refine wp_region_lit ?_
            refine wl_yield (o := ⟨_, _, _, _, _, _⟩) (.int .i64 (k + 1 : Nat)) (yt_addI (by rfl) _ _ _ rfl (((k : Nat) : Int)) 1 (((k + 1 : Nat) : Int)) rfl rfl (by omega) (by omega) (by omega)) ?_
            simp only [Act.put, lzA, lzB, lzC]
            refine wl_yield (o := ⟨_, _, _, _, _, _⟩) (.int .i64 (k + 1 : Nat)) (yl_move (by rfl) _ rfl _ rfl) ?_
            simp only [Act.put, lzA, lzB, lzC]
            refine wpList_nil ?_
            show _ ∧ _
            go_roundw
            case rel => exact ⟨k + 1, rfl, by omega, by rw [take_step boxB zBox f k hlt, ← bxP_all, ← List.append_assoc]; exact HB, D⟩
            case measure => simp [intOf]; omega
      · obtain rfl : k = f.length := by omega
        refine wp_seq_k (fun K6 hK6 => ?_)
        refine wp_region_lit ?_
        refine wl_yield (o := ⟨_, _, _, _, _, _⟩) (.bool false) (yt_lssI (by rfl) _ _ _ rfl (((f.length : Nat) : Int)) (((f.length : Nat) : Int)) false rfl rfl (decide_eq_false (by omega))) ?_
        simp only [Act.put, lzA, lzB, lzC]
        refine wpList_nil ?_
        refine hK6 _ _ ?_
        clear hK6 K6
        refine wp_seq_k (fun K7 hK7 => ?_)
        refine wp_cond_false rfl ?_
        refine wp_exit ?_
        refine hK4 _ _ ?_
        clear hK7 K7 hK4 K4
        refine wp_seq_k (fun K8 hK8 => ?_)
        refine wp_region_lit ?_
        refine wt_call (o := ⟨_, _, _, _, _, _⟩) (by rfl) 66 _ _ rfl #[.pointer (some ⟨g1, 0, none⟩)] rfl (run_call Tryz.func66 (by kernel_rfl) (by kernel_rfl)) ?_
        refine (builderString_any w.heap.size g1 _ _ HB D.size).mono ?_
        rintro r v3 (⟨rfl, kB⟩)
        · have D := D.b.trans kB
          refine Or.inl ⟨.string (bs (enc f.length ++ (f.take f.length).flatMap boxB)), rfl, ?_⟩
          simp only [Act.put, lzA, lzB, lzC]
          refine wl_yield (o := ⟨_, _, _, _, _, _⟩) (.string (bs (enc f.length ++ (f.take f.length).flatMap boxB))) (yl_assign (by rfl) _ rfl _ rfl) ?_
          simp only [Act.put, lzA, lzB, lzC]
          refine wpList_nil ?_
          refine hK8 _ _ ?_
          clear hK8 K8
          refine wp_ret ?_
          rw [List.take_length] at *
          go_ret
          exact ⟨rfl, D⟩
theorem putFilter_any (v : Value) (f : List BoxV) (w : World) (hv : Bxs w v f) (hok : ∀ b ∈ f, okBx b) (hl : f.length ≤ 4) :
    Calls Tryz.prog 25 #[v] w fun e w' => e = .returned (.string (bs (filB f))) ∧ Below w.heap.size w w' := by
  obtain ⟨p, c, cs, rfl, hp⟩ := bxs_parts hv
  exact putFilter_one f p c cs w hok hl hp
set_option maxHeartbeats 4000000 in
set_option maxRecDepth 100000 in
theorem event8_yes (ev : EvV) (w : World) (hf : evFit ev) (hi : inE ev) (hr : rightE ev = true) :
    Calls Tryz.prog 30 #[evVal ev] w fun e w' => e = .returned (.tuple #[.string (bs (evB ev)), .int .i64 0]) ∧ Below w.heap.size w w' := by
  have D : w.grownBy w none := grown_refl _ _
  go_enter Tryz.func30, Tryz.ntmps30
  refine wp_seq_k (fun K1 hK1 => ?_)
  refine wp_region_lit ?_
  refine wt_boxEv (o := ⟨_, _, _, _, _, _⟩) (by rfl) _ rfl (ev) rfl (fun v1 g1 hg G1 kb => ?_)
  simp only [Act.put, lzA, lzB, lzC]
  have ge_g1 : w.heap.size ≤ g1 := Nat.le_trans D.size hg
  clear hg
  replace D := grown_below D kb
  clear kb
  replace G1 : v1.heap[g1]? = some (.cells #[.int .i64 (ev.v0.1), .int .i64 (ev.v0.2.1), .string ev.v0.2.2, .int .i64 (ev.v1.1), .int .i64 (ev.v1.2.1), .string ev.v1.2.2, .int .i64 (ev.v2.1), .int .i64 (ev.v2.2.1), .string ev.v2.2.2, .int .i64 (ev.v3.1), .int .i64 (ev.v3.2.1), .string ev.v3.2.2] 44 (0, 0)) := G1
  refine wl_yield (o := ⟨_, _, _, _, _, _⟩) (.string (bs ([]))) (yl_assign (by rfl) _ rfl _ rfl) ?_
  simp only [Act.put, lzA, lzB, lzC]
  refine wl_yield (o := ⟨_, _, _, _, _, _⟩) (.int .i64 0) (yl_assign (by rfl) _ rfl _ rfl) ?_
  simp only [Act.put, lzA, lzB, lzC]
  refine wpList_nil ?_
  refine hK1 _ _ ?_
  clear hK1 K1
  refine wp_seq_k (fun K2 hK2 => ?_)
  refine wp_seq_k (fun K3 hK3 => ?_)
  refine wp_region_lit ?_
  refine wl_yield (o := ⟨_, _, _, _, _, _⟩) (evVal ev) (yl_ev (by rfl) _ rfl _ 0 rfl _ _ _ _ _ _ _ _ _ _ _ _ (fun _ h => by subst h; exact ⟨cell_heap G1 0, cell_heap G1 1, cell_heap G1 2, cell_heap G1 3, cell_heap G1 4, cell_heap G1 5, cell_heap G1 6, cell_heap G1 7, cell_heap G1 8, cell_heap G1 9, cell_heap G1 10, cell_heap G1 11⟩)) ?_
  simp only [Act.put, lzA, lzB, lzC]
  refine wt_call (o := ⟨_, _, _, _, _, _⟩) (by rfl) 70 _ _ rfl #[evVal ev] rfl (run_call Tryz.func70 (by kernel_rfl) (by kernel_rfl)) ?_
  refine (event_any _ _ hf).mono ?_
  rintro r v2 ⟨rfl, kb⟩
  replace D := grown_below D kb
  replace G1 := heap_on G1 kb
  clear kb
  refine Or.inl ⟨.bool true, ret_bool hr, ?_⟩
  simp only [Act.put, lzA, lzB, lzC]
  refine wl_yield (o := ⟨_, _, _, _, _, _⟩) (.bool false) (yl_not (by rfl) _ _ rfl true rfl) ?_
  simp only [Act.put, lzA, lzB, lzC]
  refine wpList_nil ?_
  refine hK3 _ _ ?_
  clear hK3 K3
  refine wp_cond_false rfl ?_
  refine wp_skip ?_
  refine hK2 _ _ ?_
  clear hK2 K2
  refine wp_seq_k (fun K4 hK4 => ?_)
  refine wp_region_lit ?_
  refine wl_yield (o := ⟨_, _, _, _, _, _⟩) (evVal ev) (yl_ev (by rfl) _ rfl _ 0 rfl _ _ _ _ _ _ _ _ _ _ _ _ (fun _ h => by subst h; exact ⟨cell_heap G1 0, cell_heap G1 1, cell_heap G1 2, cell_heap G1 3, cell_heap G1 4, cell_heap G1 5, cell_heap G1 6, cell_heap G1 7, cell_heap G1 8, cell_heap G1 9, cell_heap G1 10, cell_heap G1 11⟩)) ?_
  simp only [Act.put, lzA, lzB, lzC]
  refine wt_call (o := ⟨_, _, _, _, _, _⟩) (by rfl) 29 _ _ rfl #[evVal ev] rfl (run_call Tryz.func29 (by kernel_rfl) (by kernel_rfl)) ?_
  refine (putEvent_any _ _ (right_ev hr hi)).mono ?_
  rintro r v3 ⟨rfl, kb⟩
  replace D := grown_below D kb
  replace G1 := heap_on G1 kb
  clear kb
  refine Or.inl ⟨.string (bs (evB ev)), rfl, ?_⟩
  simp only [Act.put, lzA, lzB, lzC]
  refine wl_yield (o := ⟨_, _, _, _, _, _⟩) (.string (bs (evB ev))) (yl_assign (by rfl) _ rfl _ rfl) ?_
  simp only [Act.put, lzA, lzB, lzC]
  refine wl_yield (o := ⟨_, _, _, _, _, _⟩) (.int .i64 0) (yl_assign (by rfl) _ rfl _ rfl) ?_
  simp only [Act.put, lzA, lzB, lzC]
  refine wpList_nil ?_
  refine hK4 _ _ ?_
  clear hK4 K4
  refine wp_ret ?_
  go_ret2
  exact ⟨rfl, below_none D⟩
set_option maxHeartbeats 4000000 in
set_option maxRecDepth 100000 in
theorem event8_no (ev : EvV) (w : World) (hf : evFit ev) (hi : inE ev) (hr : rightE ev = false) :
    Calls Tryz.prog 30 #[evVal ev] w fun e w' => e = .returned (.tuple #[.string (bs []), .int .i64 1]) ∧ Below w.heap.size w w' := by
  have D : w.grownBy w none := grown_refl _ _
  go_enter Tryz.func30, Tryz.ntmps30
  refine wp_seq_k (fun K1 hK1 => ?_)
  refine wp_region_lit ?_
  refine wt_boxEv (o := ⟨_, _, _, _, _, _⟩) (by rfl) _ rfl (ev) rfl (fun v1 g1 hg G1 kb => ?_)
  simp only [Act.put, lzA, lzB, lzC]
  have ge_g1 : w.heap.size ≤ g1 := Nat.le_trans D.size hg
  clear hg
  replace D := grown_below D kb
  clear kb
  replace G1 : v1.heap[g1]? = some (.cells #[.int .i64 (ev.v0.1), .int .i64 (ev.v0.2.1), .string ev.v0.2.2, .int .i64 (ev.v1.1), .int .i64 (ev.v1.2.1), .string ev.v1.2.2, .int .i64 (ev.v2.1), .int .i64 (ev.v2.2.1), .string ev.v2.2.2, .int .i64 (ev.v3.1), .int .i64 (ev.v3.2.1), .string ev.v3.2.2] 44 (0, 0)) := G1
  refine wl_yield (o := ⟨_, _, _, _, _, _⟩) (.string (bs ([]))) (yl_assign (by rfl) _ rfl _ rfl) ?_
  simp only [Act.put, lzA, lzB, lzC]
  refine wl_yield (o := ⟨_, _, _, _, _, _⟩) (.int .i64 0) (yl_assign (by rfl) _ rfl _ rfl) ?_
  simp only [Act.put, lzA, lzB, lzC]
  refine wpList_nil ?_
  refine hK1 _ _ ?_
  clear hK1 K1
  refine wp_seq_k (fun K2 hK2 => ?_)
  refine wp_seq_k (fun K3 hK3 => ?_)
  refine wp_region_lit ?_
  refine wl_yield (o := ⟨_, _, _, _, _, _⟩) (evVal ev) (yl_ev (by rfl) _ rfl _ 0 rfl _ _ _ _ _ _ _ _ _ _ _ _ (fun _ h => by subst h; exact ⟨cell_heap G1 0, cell_heap G1 1, cell_heap G1 2, cell_heap G1 3, cell_heap G1 4, cell_heap G1 5, cell_heap G1 6, cell_heap G1 7, cell_heap G1 8, cell_heap G1 9, cell_heap G1 10, cell_heap G1 11⟩)) ?_
  simp only [Act.put, lzA, lzB, lzC]
  refine wt_call (o := ⟨_, _, _, _, _, _⟩) (by rfl) 70 _ _ rfl #[evVal ev] rfl (run_call Tryz.func70 (by kernel_rfl) (by kernel_rfl)) ?_
  refine (event_any _ _ hf).mono ?_
  rintro r v2 ⟨rfl, kb⟩
  replace D := grown_below D kb
  replace G1 := heap_on G1 kb
  clear kb
  refine Or.inl ⟨.bool false, ret_bool hr, ?_⟩
  simp only [Act.put, lzA, lzB, lzC]
  refine wl_yield (o := ⟨_, _, _, _, _, _⟩) (.bool true) (yl_not (by rfl) _ _ rfl false rfl) ?_
  simp only [Act.put, lzA, lzB, lzC]
  refine wpList_nil ?_
  refine hK3 _ _ ?_
  clear hK3 K3
  refine wp_cond_true rfl ?_
  refine wp_seq_k (fun K4 hK4 => ?_)
  refine wp_region_lit ?_
  refine wl_yield (o := ⟨_, _, _, _, _, _⟩) (.string (bs ([]))) (yl_assign (by rfl) _ rfl _ rfl) ?_
  simp only [Act.put, lzA, lzB, lzC]
  refine wl_yield (o := ⟨_, _, _, _, _, _⟩) (.int .i64 1) (yl_assign (by rfl) _ rfl _ rfl) ?_
  simp only [Act.put, lzA, lzB, lzC]
  refine wpList_nil ?_
  refine hK4 _ _ ?_
  clear hK4 K4
  refine wp_ret ?_
  go_ret2
  exact ⟨rfl, below_none D⟩
set_option maxHeartbeats 4000000 in
set_option maxRecDepth 100000 in
theorem filter8_yes (v : Value) (f : List BoxV) (w : World) (hv : Bxs w v f) (hr : rightF f = true) :
    Calls Tryz.prog 21 #[v] w fun e w' => e = .returned (.tuple #[.string (bs (filB f)), .int .i64 0]) ∧ Below w.heap.size w w' := by
  have D : w.grownBy w none := grown_refl _ _
  go_enter Tryz.func21, Tryz.ntmps21
  refine wp_seq_k (fun K1 hK1 => ?_)
  refine wp_region_lit ?_
  refine wl_yield (o := ⟨_, _, _, _, _, _⟩) (.string (bs ([]))) (yl_assign (by rfl) _ rfl _ rfl) ?_
  simp only [Act.put, lzA, lzB, lzC]
  refine wl_yield (o := ⟨_, _, _, _, _, _⟩) (.int .i64 0) (yl_assign (by rfl) _ rfl _ rfl) ?_
  simp only [Act.put, lzA, lzB, lzC]
  refine wpList_nil ?_
  refine hK1 _ _ ?_
  clear hK1 K1
  refine wp_seq_k (fun K2 hK2 => ?_)
  refine wp_seq_k (fun K3 hK3 => ?_)
  refine wp_region_lit ?_
  refine wl_yield (o := ⟨_, _, _, _, _, _⟩) (v) (yl_move (by rfl) _ rfl _ rfl) ?_
  simp only [Act.put, lzA, lzB, lzC]
  refine wt_call (o := ⟨_, _, _, _, _, _⟩) (by rfl) 47 _ _ rfl #[v] rfl (run_call Tryz.func47 (by kernel_rfl) (by kernel_rfl)) ?_
  refine (dnfRight_any _ _ _ (hv.on (below_none D))).mono ?_
  rintro r v1 ⟨rfl, kb⟩
  replace D := grown_below D kb
  clear kb
  refine Or.inl ⟨.bool true, ret_bool hr, ?_⟩
  simp only [Act.put, lzA, lzB, lzC]
  refine wl_yield (o := ⟨_, _, _, _, _, _⟩) (.bool false) (yl_not (by rfl) _ _ rfl true rfl) ?_
  simp only [Act.put, lzA, lzB, lzC]
  refine wpList_nil ?_
  refine hK3 _ _ ?_
  clear hK3 K3
  refine wp_cond_false rfl ?_
  refine wp_skip ?_
  refine hK2 _ _ ?_
  clear hK2 K2
  refine wp_seq_k (fun K4 hK4 => ?_)
  refine wp_region_lit ?_
  refine wl_yield (o := ⟨_, _, _, _, _, _⟩) (v) (yl_move (by rfl) _ rfl _ rfl) ?_
  simp only [Act.put, lzA, lzB, lzC]
  refine wt_call (o := ⟨_, _, _, _, _, _⟩) (by rfl) 25 _ _ rfl #[v] rfl (run_call Tryz.func25 (by kernel_rfl) (by kernel_rfl)) ?_
  refine (putFilter_any _ _ _ (hv.on (below_none D)) (right_ok hr hv.i64).2.2 (right_ok hr hv.i64).2.1).mono ?_
  rintro r v2 ⟨rfl, kb⟩
  replace D := grown_below D kb
  clear kb
  refine Or.inl ⟨.string (bs (filB f)), rfl, ?_⟩
  simp only [Act.put, lzA, lzB, lzC]
  refine wl_yield (o := ⟨_, _, _, _, _, _⟩) (.string (bs (filB f))) (yl_assign (by rfl) _ rfl _ rfl) ?_
  simp only [Act.put, lzA, lzB, lzC]
  refine wl_yield (o := ⟨_, _, _, _, _, _⟩) (.int .i64 0) (yl_assign (by rfl) _ rfl _ rfl) ?_
  simp only [Act.put, lzA, lzB, lzC]
  refine wpList_nil ?_
  refine hK4 _ _ ?_
  clear hK4 K4
  refine wp_ret ?_
  go_ret2
  exact ⟨rfl, below_none D⟩
set_option maxHeartbeats 4000000 in
set_option maxRecDepth 100000 in
theorem filter8_no (v : Value) (f : List BoxV) (w : World) (hv : Bxs w v f) (hr : rightF f = false) :
    Calls Tryz.prog 21 #[v] w fun e w' => e = .returned (.tuple #[.string (bs []), .int .i64 1]) ∧ Below w.heap.size w w' := by
  have D : w.grownBy w none := grown_refl _ _
  go_enter Tryz.func21, Tryz.ntmps21
  refine wp_seq_k (fun K1 hK1 => ?_)
  refine wp_region_lit ?_
  refine wl_yield (o := ⟨_, _, _, _, _, _⟩) (.string (bs ([]))) (yl_assign (by rfl) _ rfl _ rfl) ?_
  simp only [Act.put, lzA, lzB, lzC]
  refine wl_yield (o := ⟨_, _, _, _, _, _⟩) (.int .i64 0) (yl_assign (by rfl) _ rfl _ rfl) ?_
  simp only [Act.put, lzA, lzB, lzC]
  refine wpList_nil ?_
  refine hK1 _ _ ?_
  clear hK1 K1
  refine wp_seq_k (fun K2 hK2 => ?_)
  refine wp_seq_k (fun K3 hK3 => ?_)
  refine wp_region_lit ?_
  refine wl_yield (o := ⟨_, _, _, _, _, _⟩) (v) (yl_move (by rfl) _ rfl _ rfl) ?_
  simp only [Act.put, lzA, lzB, lzC]
  refine wt_call (o := ⟨_, _, _, _, _, _⟩) (by rfl) 47 _ _ rfl #[v] rfl (run_call Tryz.func47 (by kernel_rfl) (by kernel_rfl)) ?_
  refine (dnfRight_any _ _ _ (hv.on (below_none D))).mono ?_
  rintro r v1 ⟨rfl, kb⟩
  replace D := grown_below D kb
  clear kb
  refine Or.inl ⟨.bool false, ret_bool hr, ?_⟩
  simp only [Act.put, lzA, lzB, lzC]
  refine wl_yield (o := ⟨_, _, _, _, _, _⟩) (.bool true) (yl_not (by rfl) _ _ rfl false rfl) ?_
  simp only [Act.put, lzA, lzB, lzC]
  refine wpList_nil ?_
  refine hK3 _ _ ?_
  clear hK3 K3
  refine wp_cond_true rfl ?_
  refine wp_seq_k (fun K4 hK4 => ?_)
  refine wp_region_lit ?_
  refine wl_yield (o := ⟨_, _, _, _, _, _⟩) (.string (bs ([]))) (yl_assign (by rfl) _ rfl _ rfl) ?_
  simp only [Act.put, lzA, lzB, lzC]
  refine wl_yield (o := ⟨_, _, _, _, _, _⟩) (.int .i64 1) (yl_assign (by rfl) _ rfl _ rfl) ?_
  simp only [Act.put, lzA, lzB, lzC]
  refine wpList_nil ?_
  refine hK4 _ _ ?_
  clear hK4 K4
  refine wp_ret ?_
  go_ret2
  exact ⟨rfl, below_none D⟩
end Go.Proofs.YtlmdcaemjaldfaaGreat
namespace Go.Proofs.YtlmdcaemjaldfaaGreat
open Go.RowKit
theorem put_mid8 (g : Nat) (t : TypeId) : ∀ (ds cs pre post : List Value) (w : World), w.heap[g]? = some (.cells (pre ++ (cs ++ post)).toArray t (0, 0)) → cs.length = ds.length → (w.setCells g pre.length ds).heap[g]? = some (.cells (pre ++ (ds ++ post)).toArray t (0, 0)) ∧ w.grownBy (w.setCells g pre.length ds) (some g)
  | [], [], pre, post, w, h, _ => ⟨h, grown_refl _ _⟩
  | d :: ds, c :: cs, pre, post, w, h, hl => by
    have h1 := heap_setCell (i := pre.length) d h
    have e : ((pre ++ ((c :: cs) ++ post)).toArray).setIfInBounds pre.length d = ((pre ++ [d]) ++ (cs ++ post)).toArray := by simp
    rw [e] at h1
    obtain ⟨h2, h3⟩ := put_mid8 g t ds cs (pre ++ [d]) post _ h1 (by simpa using hl)
    rw [List.length_append, List.length_cons, List.length_nil] at h2 h3
    rw [List.append_assoc, List.cons_append, List.nil_append] at h2
    exact ⟨h2, grown_trans (grown_put _ _ _ _) h3⟩
def b4Obj (c : BxC) : Obj := .cells c.list.toArray 39
def B4In (w : World) (g : Nat) (c : BxC) : Prop := w.heap[g]? = some (b4Obj c)
def BxC.put (c : BxC) (i : Nat) (s : SC) : BxC := match i with
  | 0 => { c with s0 := s }
  | 1 => { c with s1 := s }
  | 2 => { c with s2 := s }
  | 3 => { c with s3 := s }
  | _ => c
theorem BxC.sc_put (c : BxC) (i j : Nat) (s : SC) (hi : i < 4) (hj : j < 4) : (c.put i s).sc j = if j = i then s else c.sc j := by
  match i, hi with
  | 0, _ => match j, hj with
    | 0, _ => rfl
    | 1, _ => rfl
    | 2, _ => rfl
    | 3, _ => rfl
  | 1, _ => match j, hj with
    | 0, _ => rfl
    | 1, _ => rfl
    | 2, _ => rfl
    | 3, _ => rfl
  | 2, _ => match j, hj with
    | 0, _ => rfl
    | 1, _ => rfl
    | 2, _ => rfl
    | 3, _ => rfl
  | 3, _ => match j, hj with
    | 0, _ => rfl
    | 1, _ => rfl
    | 2, _ => rfl
    | 3, _ => rfl
theorem put_set (c : BxC) (i : Nat) (hi : i < 4) (s : SC) (t : TypeId) (g : Nat) (w : World) (h : w.heap[g]? = some (.cells c.list.toArray t (0, 0))) :
    (w.setCells g (i * 4) s.list).heap[g]? = some (.cells (c.put i s).list.toArray t (0, 0)) ∧ w.grownBy (w.setCells g (i * 4) s.list) (some g) := by
  match i, hi with
  | 0, _ => exact put_mid8 g t s.list c.s0.list [] (c.s1.list ++ (c.s2.list ++ c.s3.list)) w h rfl
  | 1, _ => exact put_mid8 g t s.list c.s1.list c.s0.list (c.s2.list ++ c.s3.list) w h rfl
  | 2, _ => exact put_mid8 g t s.list c.s2.list (c.s0.list ++ c.s1.list) c.s3.list w h rfl
  | 3, _ => exact put_mid8 g t s.list c.s3.list (c.s0.list ++ (c.s1.list ++ c.s2.list)) [] w h rfl
section
variable {ops : Array Oper} {Q : Exit → Act → World → Prop} {S : World → Prop} {o : Oper} {a : Act}
theorem wt_alloc4 {rest : List Oper} {w : World} (hw : Region.wanted o (yielded ops a.tmps) = true) (ho : o.op = .alloc 39)
    (h : ∀ W g, w.heap.size ≤ g → B4In W g bc0 → Below w.heap.size w W → wpList Tryz.prog ops Q rest (a.put o.dst (.pointer (some ⟨g, 0, none⟩))) W) : wpList Tryz.prog ops Q (o :: rest) a w := by
  refine wl_run hw (.pointer (some ⟨w.heap.size, 0, none⟩)) (w.alloc (b4Obj bc0)) ?_ (h _ _ (Nat.le_refl _) (heap_new _ _) ((Below.refl _ w).alloc (Nat.le_refl _) _))
  simp only [execOp, ho, b4Obj, BxC.list, bc0, SC.zero]
  go_simp
theorem yl_at4 (hw : Region.wanted o (yielded ops a.tmps) = true) (x y : Operand) (ho : o.op = .indexAddr 39 x y) (g : Nat) (i : Nat) (hx : a.eval x = .pointer (some ⟨g, 0, none⟩)) (hy : a.eval y = .int .i64 i) (hi : i < 4) : YieldsIf Tryz.prog ops S o (.pointer (some ⟨g, i * 4, none⟩)) a :=
  Or.inl ⟨hw, fun w hS => by
    simp only [execOp, ho, hx, hy]
    match i, hi with
    | 0, _ => go_simp
    | 1, _ => go_simp
    | 2, _ => go_simp
    | 3, _ => go_simp⟩
theorem info4S : (Tryz.prog.info? 39).map (·.size) = some 16 := by kernel_rfl
theorem yl_bx4 (hw : Region.wanted o (yielded ops a.tmps) = true) (x : Operand) (ho : o.op = .load 39 x) (g k : Nat) (hx : a.eval x = .pointer (some ⟨g, k, none⟩)) (c : BxC)
    (h : ∀ w, S w → BcAt w g k c) : YieldsIf Tryz.prog ops S o c.val a := by
  rw [BxC.val_list]
  exact yieldsIf_load_mid hw 39 x ho g k hx c.list _ (fun w hS => (h w hS).r) Tryz.underlying39 rfl (by rw [info4S]; rfl)
theorem B4In.at {w : World} {g : Nat} {c : BxC} (h : B4In w g c) : BcAt w g 0 c := ⟨lt_heap h, fun j v hv => by
  rw [Nat.zero_add, cell_heap h]
  exact List.getElem?_toArray.trans hv⟩
theorem wt_put4 {rest : List Oper} {w : World} (hw : o.guard = none) (x y : Operand) (ho : o.op = .store 25 x y) (g i : Nat) (hi : i < 4) (hx : a.eval x = .pointer (some ⟨g, i * 4, none⟩)) (s : SC) (hy : a.eval y = s.val) {c : BxC} {t : TypeId} (hc : w.heap[g]? = some (.cells c.list.toArray t (0, 0)))
    (h : ∀ W, W.heap[g]? = some (.cells (c.put i s).list.toArray t (0, 0)) → w.grownBy W (some g) → wpList Tryz.prog ops Q rest (a.put o.dst undef) W) : wpList Tryz.prog ops Q (o :: rest) a w := by
  have hs : c.list.toArray.size = 16 := by simp [BxC.list_len]
  have ht : w.there g (i * 4) 4 := fun j hj => ⟨by rw [cell_heap hc, Array.getElem?_eq_getElem (by omega)]; rfl, frozen_heap hc _⟩
  refine wpList_store_mid hw 25 x y ho g (i * 4) s.list.toArray hx hy ht (by rw [infoSet4]; rfl) (all_oneCell_toArray s.list_one) ?_
  obtain ⟨h1, h2⟩ := put_set c i hi s t g w hc
  exact h _ h1 h2
theorem wt_putBx {rest : List Oper} {w : World} (hw : o.guard = none) (x y : Operand) (ho : o.op = .store 40 x y) (g : Nat) (hx : a.eval x = .pointer (some ⟨g, 0, none⟩)) (d : BxC) (hy : a.eval y = d.val) {c : BxC} (hc : BcIn w g c)
    (h : ∀ W, BcIn W g d → w.grownBy W (some g) → wpList Tryz.prog ops Q rest (a.put o.dst undef) W) : wpList Tryz.prog ops Q (o :: rest) a w := by
  refine wl_putB hw x y ho g 0 d hx hy hc.there ?_
  obtain ⟨h1, h2⟩ := put_mid8 g 40 d.list c.list [] [] w (by simpa [BcIn, bcObj] using hc) (by rw [BxC.list_len, BxC.list_len])
  exact h _ (by simpa [BcIn, bcObj] using h1) h2
theorem ev_put {w : World} {g : Nat} {e : EvV} (h : EvIn w g e) (i : Nat) (hi : i < 4) (v : Va) : EvIn (w.setCells g (i * 3) [.int .i64 v.1, .int .i64 v.2.1, .string v.2.2]) g (e.put i v) ∧ w.grownBy (w.setCells g (i * 3) [.int .i64 v.1, .int .i64 v.2.1, .string v.2.2]) (some g) := by
  match i, hi with
  | 0, _ => exact put_mid8 g 44 [.int .i64 v.1, .int .i64 v.2.1, .string v.2.2] [.int .i64 e.v0.1, .int .i64 e.v0.2.1, .string e.v0.2.2] [] [.int .i64 e.v1.1, .int .i64 e.v1.2.1, .string e.v1.2.2, .int .i64 e.v2.1, .int .i64 e.v2.2.1, .string e.v2.2.2, .int .i64 e.v3.1, .int .i64 e.v3.2.1, .string e.v3.2.2] w h rfl
  | 1, _ => exact put_mid8 g 44 [.int .i64 v.1, .int .i64 v.2.1, .string v.2.2] [.int .i64 e.v1.1, .int .i64 e.v1.2.1, .string e.v1.2.2] [.int .i64 e.v0.1, .int .i64 e.v0.2.1, .string e.v0.2.2] [.int .i64 e.v2.1, .int .i64 e.v2.2.1, .string e.v2.2.2, .int .i64 e.v3.1, .int .i64 e.v3.2.1, .string e.v3.2.2] w h rfl
  | 2, _ => exact put_mid8 g 44 [.int .i64 v.1, .int .i64 v.2.1, .string v.2.2] [.int .i64 e.v2.1, .int .i64 e.v2.2.1, .string e.v2.2.2] [.int .i64 e.v0.1, .int .i64 e.v0.2.1, .string e.v0.2.2, .int .i64 e.v1.1, .int .i64 e.v1.2.1, .string e.v1.2.2] [.int .i64 e.v3.1, .int .i64 e.v3.2.1, .string e.v3.2.2] w h rfl
  | 3, _ => exact put_mid8 g 44 [.int .i64 v.1, .int .i64 v.2.1, .string v.2.2] [.int .i64 e.v3.1, .int .i64 e.v3.2.1, .string e.v3.2.2] [.int .i64 e.v0.1, .int .i64 e.v0.2.1, .string e.v0.2.2, .int .i64 e.v1.1, .int .i64 e.v1.2.1, .string e.v1.2.2, .int .i64 e.v2.1, .int .i64 e.v2.2.1, .string e.v2.2.2] [] w h rfl
theorem wt_putEv1 {rest : List Oper} {w : World} (hw : o.guard = none) (x y : Operand) (ho : o.op = .store 42 x y) (g i : Nat) (hi : i < 4) (hx : a.eval x = .pointer (some ⟨g, i * 3, none⟩)) (v : Va) (hy : a.eval y = vVal v) {e : EvV} (hc : EvIn w g e)
    (h : ∀ W, EvIn W g (e.put i v) → w.grownBy W (some g) → wpList Tryz.prog ops Q rest (a.put o.dst undef) W) : wpList Tryz.prog ops Q (o :: rest) a w := by
  have ht : w.there g (i * 3) 3 := fun j hj => ⟨by rw [cell_heap hc, Array.getElem?_eq_getElem (by simp; omega)]; rfl, frozen_heap hc _⟩
  refine wpList_store_mid hw 42 x y ho g (i * 3) #[.int .i64 v.1, .int .i64 v.2.1, .string v.2.2] hx hy ht (by rw [infoV]; rfl) (by simp [Value.oneCell']) ?_
  obtain ⟨h1, h2⟩ := ev_put hc i hi v
  exact h _ h1 h2
end
theorem uintO_lo (l : List UInt8) (e : Int) : 0 ≤ (uintO l e).1 ∧ (uintO l e).1 < 18446744073709551616 := by
  unfold uintO
  split
  · rename_i h
    by_cases h0 : (decL true 0 l).err = 0
    · have := (dec_inv l (decL true 0 l).n (decL true 0 l).rest (got_eta h0)).2
      exact ⟨(by omega : (0 : Int) ≤ ((decL true 0 l).n : Int)), (by omega : ((decL true 0 l).n : Int) < 18446744073709551616)⟩
    · have := (dec_err_rest l true 0 h0).1
      exact ⟨(by omega : (0 : Int) ≤ ((decL true 0 l).n : Int)), (by omega : ((decL true 0 l).n : Int) < 18446744073709551616)⟩
  · exact ⟨Int.le_refl 0, (by decide : (0 : Int) < 18446744073709551616)⟩
theorem cntO_gt {most : Nat} {l : List UInt8} {e : Int} (h : (most : Int) < (uintO l e).1) : cntO most l e = (0, failO 2 (uintO l e).2.1 (uintO l e).2.2) := if_pos h
theorem cntO_le' {most : Nat} {l : List UInt8} {e : Int} (h : ¬ (most : Int) < (uintO l e).1) : cntO most l e = ((uintO l e).1.toNat, (uintO l e).2) := if_neg h
theorem cntO_most (most : Nat) (l : List UInt8) (e : Int) : (cntO most l e).1 ≤ most := by
  unfold cntO
  split
  · exact Nat.zero_le _
  · rename_i h
    simp only []
    omega
theorem intO_ok (l : List UInt8) (e : Int) : okI (intO l e).1 := by
  unfold intO
  split
  · by_cases h0 : (decL true 0 l).err = 0
    · have := (dec_inv l (decL true 0 l).n (decL true 0 l).rest (got_eta h0)).2
      exact unzz_bd _ this
    · have := (dec_err_rest l true 0 h0).1
      simp only [this]
      exact ⟨by decide, by decide⟩
  · exact ⟨(by decide : (-9223372036854775808 : Int) ≤ 0), (by decide : (0 : Int) ≤ 9223372036854775807)⟩
theorem rgO_ok (l : List UInt8) (e : Int) : okI (rgO l e).1.1 ∧ okI (rgO l e).1.2 := ⟨intO_ok _ _, intO_ok _ _⟩
theorem stO_ok (l : List UInt8) (e : Int) : (stO l e).1.size ≤ 8 := by
  unfold stO strO
  split
  · show (⟨(strL 8 l).out.toArray⟩ : ByteArray).size ≤ 8
    rw [Lib.size_eq]
    simp only [List.toList_toArray]
    unfold strL
    split
    · exact Nat.zero_le _
    · split
      · exact Nat.zero_le _
      · split
        · exact Nat.zero_le _
        · rename_i h _
          simp only [List.length_take]
          omega
  · exact Nat.zero_le _
theorem iterO_all {α : Type} {f : TkF α} {P : α → Prop} (h : ∀ l e, P (f l e).1) : ∀ (k : Nat) (l : List UInt8) (e : Int), ∀ x ∈ (iterO f k l e).1, P x
  | 0, _, _, x, hx => by cases hx
  | k + 1, l, e, x, hx => by
    rw [iterO] at hx
    rcases List.mem_append.1 hx with hx | hx
    · exact iterO_all h k l e x hx
    · rw [List.mem_singleton.1 hx]; exact h _ _
end Go.Proofs.YtlmdcaemjaldfaaGreat
