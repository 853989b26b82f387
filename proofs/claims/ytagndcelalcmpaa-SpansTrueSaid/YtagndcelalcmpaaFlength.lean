import Derived.Test.YtagndcelalcmpaaSpec29e
import Derived.Test.YtagndcelalcmpaaRows
import Derived.Test.YtagndcelalcmpaaFnames
import Derived.Test.YtagndcelalcmpaaFrnd
namespace Go.Proofs.Ytagndcelalcmpaa
open Go.Ev Go.Sp
set_option maxRecDepth 100000
theorem vc_length : vcFn Try.prog [(31, Ext.ctr (ctOf sigRnd))] tab [] 100 15 sigLen = (allB fun n0 : Int => 
impB ((-9223372036854775808 : Int) ≤ n0) (
impB (n0 ≤ (9223372036854775807 : Int)) (
allB fun n1 : Int => 
impB ((-9223372036854775808 : Int) ≤ n1) (
impB (n1 ≤ (9223372036854775807 : Int)) (
allB fun n2 : Int => 
impB ((-9223372036854775808 : Int) ≤ n2) (
impB (n2 ≤ (9223372036854775807 : Int)) (
allB fun n3 : Int => 
impB ((-9223372036854775808 : Int) ≤ n3) (
impB (n3 ≤ (9223372036854775807 : Int)) (
allB fun n4 : Int => 
impB ((-9223372036854775808 : Int) ≤ n4) (
impB (n4 ≤ (9223372036854775807 : Int)) (
impB (sigLen.pre [DV.n n0, DV.n n1, DV.n n2, DV.n n3, DV.n n4]) (
bR (dec ((1 : Int) ≤ n0)) (
 bR (bR (dec (n0 ≤ (8192 : Int))) (
  false) (
  true)) (
  reqB (sigLen.post [DV.n n0, DV.n n1, DV.n n2, DV.n n3, DV.n n4]
  [DV.n (0 : Int), DV.n (2 : Int)]) (
  true)) (
  bR (dec ((-604800000 : Int) ≤ n1)) (
   bR (bR (dec (n1 ≤ (1209600000 : Int))) (
    false) (
    true)) (
    reqB (sigLen.post [DV.n n0, DV.n n1, DV.n n2, DV.n n3, DV.n n4]
  [DV.n (0 : Int), DV.n (2 : Int)]) (
    true)) (
    bR (dec ((1 : Int) ≤ n2)) (
     bR (bR (dec (n2 ≤ (2048 : Int))) (
      false) (
      true)) (
      reqB (sigLen.post [DV.n n0, DV.n n1, DV.n n2, DV.n n3, DV.n n4]
  [DV.n (0 : Int), DV.n (2 : Int)]) (
      true)) (
      bR (dec ((0 : Int) ≤ n3)) (
       bR (bR (dec (n3 ≤ (1099511627776 : Int))) (
        false) (
        true)) (
        reqB (sigLen.post [DV.n n0, DV.n n1, DV.n n2, DV.n n3, DV.n n4]
  [DV.n (0 : Int), DV.n (2 : Int)]) (
        true)) (
        bR (dec ((0 : Int) ≤ n4)) (
         bR (bR (dec (n4 ≤ (604799999 : Int))) (
          false) (
          true)) (
          reqB (sigLen.post [DV.n n0, DV.n n1, DV.n n2, DV.n n3, DV.n n4]
  [DV.n (0 : Int), DV.n (2 : Int)]) (
          true)) (
          allB fun n5 : Int => 
          impB (n5 = Go.IntKind.i64.wrap (n1 - n4)) (
          impB (Int.negSucc (9223372036854775807 : Nat) ≤ n5) (
          impB (n5 ≤ Int.ofNat (9223372036854775807 : Nat)) (
          reqB (n0 ≠ (0 : Int)) (
          allB fun n6 : Int => 
          impB (n6 = Go.IntKind.i64.wrap (n3.tdiv n0)) (
          impB (Int.negSucc (9223372036854775807 : Nat) ≤ n6) (
          impB (n6 ≤ Int.ofNat (9223372036854775807 : Nat)) (
          allB fun n7 : Int => 
          impB (n7 = Go.IntKind.i64.wrap (n5 + n6)) (
          impB (Int.negSucc (9223372036854775807 : Nat) ≤ n7) (
          impB (n7 ≤ Int.ofNat (9223372036854775807 : Nat)) (
          bR (dec ((-40000 : Int) ≤ n7)) (
           bR (bR (dec (n7 ≤ (40000 : Int))) (
            false) (
            true)) (
            reqB (sigLen.post [DV.n n0, DV.n n1, DV.n n2, DV.n n3, DV.n n4]
  [DV.n (0 : Int), DV.n (5 : Int)]) (
            true)) (
            allB fun n8 : Int => 
            impB (n8 = Go.IntKind.i64.wrap (n7 * n0)) (
            impB (Int.negSucc (9223372036854775807 : Nat) ≤ n8) (
            impB (n8 ≤ Int.ofNat (9223372036854775807 : Nat)) (
            reqB (n0 ≠ (0 : Int)) (
            allB fun n9 : Int => 
            impB (n9 = Go.IntKind.i64.wrap (n8 + n3.tmod n0)) (
            impB (Int.negSucc (9223372036854775807 : Nat) ≤ n9) (
            impB (n9 ≤ Int.ofNat (9223372036854775807 : Nat)) (
            allB fun n10 : Int => 
            impB (n10 = Go.IntKind.i64.wrap ((299792458 : Int) * n9)) (
            impB (Int.negSucc (9223372036854775807 : Nat) ≤ n10) (
            impB (n10 ≤ Int.ofNat (9223372036854775807 : Nat)) (
            reqB ((-200000000000000000 : Int) ≤ n10) (
            reqB (n10 ≤ (200000000000000000 : Int)) (
            reqB ((1 : Int) ≤ n0) (
            reqB (n0 ≤ (8192 : Int)) (
            reqB (sigRnd.pre [DV.n n10, DV.n n0]) (
            allB fun n11 : Int => 
            impB ((-500000000000000000 : Int) ≤ n11) (
            impB (n11 ≤ (500000000000000000 : Int)) (
            impB (sigRnd.post [DV.n n10, DV.n n0] [DV.n n11]) (
            bR (dec ((-10000000000000 : Int) ≤ n11)) (
             bR (bR (dec (n11 ≤ (10000000000000 : Int))) (
              false) (
              true)) (
              reqB (sigLen.post [DV.n n0, DV.n n1, DV.n n2, DV.n n3, DV.n n4]
  [DV.n (0 : Int), DV.n (5 : Int)]) (
              true)) (
              reqB ((-9223372036854775808 : Int) ≤ n11) (
              reqB (n11 ≤ (9223372036854775807 : Int)) (
              reqB (sigLen.post [DV.n n0, DV.n n1, DV.n n2, DV.n n3, DV.n n4]
  [DV.n n11, DV.n (0 : Int)]) (
              true))))) (
             reqB (sigLen.post [DV.n n0, DV.n n1, DV.n n2, DV.n n3, DV.n n4]
  [DV.n (0 : Int), DV.n (5 : Int)]) (
             true)))))))))))))))))))))) (
           reqB (sigLen.post [DV.n n0, DV.n n1, DV.n n2, DV.n n3, DV.n n4]
  [DV.n (0 : Int), DV.n (5 : Int)]) (
           true)))))))))))))) (
         reqB (sigLen.post [DV.n n0, DV.n n1, DV.n n2, DV.n n3, DV.n n4]
  [DV.n (0 : Int), DV.n (2 : Int)]) (
         true)))) (
       reqB (sigLen.post [DV.n n0, DV.n n1, DV.n n2, DV.n n3, DV.n n4]
  [DV.n (0 : Int), DV.n (2 : Int)]) (
       true)))) (
     reqB (sigLen.post [DV.n n0, DV.n n1, DV.n n2, DV.n n3, DV.n n4]
  [DV.n (0 : Int), DV.n (2 : Int)]) (
     true)))) (
   reqB (sigLen.post [DV.n n0, DV.n n1, DV.n n2, DV.n n3, DV.n n4]
  [DV.n (0 : Int), DV.n (2 : Int)]) (
   true)))) (
 reqB (sigLen.post [DV.n n0, DV.n n1, DV.n n2, DV.n n3, DV.n n4]
  [DV.n (0 : Int), DV.n (2 : Int)]) (
 true)))))))))))))) := by kernel_rfl
set_option maxHeartbeats 8000000 in
theorem vt_length : vcFn Try.prog [(31, Ext.ctr (ctOf sigRnd))] tab [] 100 15 sigLen = true := by
  rw [vc_length]
  refine all_i fun n0 => ?_
  refine imp_i fun h0 => ?_
  refine imp_i fun h1 => ?_
  refine all_i fun n1 => ?_
  refine imp_i fun h2 => ?_
  refine imp_i fun h3 => ?_
  refine all_i fun n2 => ?_
  refine imp_i fun h4 => ?_
  refine imp_i fun h5 => ?_
  refine all_i fun n3 => ?_
  refine imp_i fun h6 => ?_
  refine imp_i fun h7 => ?_
  refine all_i fun n4 => ?_
  refine imp_i fun h8 => ?_
  refine imp_i fun h9 => ?_
  refine imp_i fun h10 => ?_
  try simp only [sigRnd0, sigRnd, rndPost0, sigRnd1, rndPost1, rndPost, sigLen, lenPost, sigBnd, bndPost, sigL5, sigPickN, pickPost, sigTrue0, List.cons.injEq, DV.b.injEq, and_true] at h10
  refine bR_dec (fun h11 => ?_) (fun h11 => ?_)
  ·
    refine bR_i (fun h12 => ?_) (fun h12 => ?_)
    ·
      simp only [bR_iff, bR_iff_f, dec_iff, dec_f, Bool.false_eq_true, Bool.true_eq_false, false_implies, imp_false, and_true, true_and, implies_true, Classical.not_not] at h12
      refine req_i ?_ ?_
      · -- r0
        first | omega | trivial | (simp only [sigRnd0, sigRnd, rndPost0, sigRnd1, rndPost1, rndPost, sigLen, lenPost, sigBnd, bndPost, sigL5, sigPickN, pickPost, sigTrue0, List.cons.injEq, DV.b.injEq, and_true]; omega) | (simp only [sigRnd0, sigRnd, rndPost0, sigRnd1, rndPost1, rndPost, sigLen, lenPost, sigBnd, bndPost, sigL5, sigPickN, pickPost, sigTrue0, List.cons.injEq, DV.b.injEq, and_true]; trivial) | (simp only [sigRnd0, sigRnd, rndPost0, sigRnd1, rndPost1, rndPost, sigLen, lenPost, sigBnd, bndPost, sigL5, sigPickN, pickPost, sigTrue0, List.cons.injEq, DV.b.injEq, and_true]; grind)
      rfl
    ·
      simp only [bR_iff, bR_iff_f, dec_iff, dec_f, Bool.false_eq_true, Bool.true_eq_false, false_implies, imp_false, and_true, true_and, implies_true, Classical.not_not] at h12
      refine bR_dec (fun h13 => ?_) (fun h13 => ?_)
      ·
        refine bR_i (fun h14 => ?_) (fun h14 => ?_)
        ·
          simp only [bR_iff, bR_iff_f, dec_iff, dec_f, Bool.false_eq_true, Bool.true_eq_false, false_implies, imp_false, and_true, true_and, implies_true, Classical.not_not] at h14
          refine req_i ?_ ?_
          · -- r1
            first | omega | trivial | (simp only [sigRnd0, sigRnd, rndPost0, sigRnd1, rndPost1, rndPost, sigLen, lenPost, sigBnd, bndPost, sigL5, sigPickN, pickPost, sigTrue0, List.cons.injEq, DV.b.injEq, and_true]; omega) | (simp only [sigRnd0, sigRnd, rndPost0, sigRnd1, rndPost1, rndPost, sigLen, lenPost, sigBnd, bndPost, sigL5, sigPickN, pickPost, sigTrue0, List.cons.injEq, DV.b.injEq, and_true]; trivial) | (simp only [sigRnd0, sigRnd, rndPost0, sigRnd1, rndPost1, rndPost, sigLen, lenPost, sigBnd, bndPost, sigL5, sigPickN, pickPost, sigTrue0, List.cons.injEq, DV.b.injEq, and_true]; grind)
          rfl
        ·
          simp only [bR_iff, bR_iff_f, dec_iff, dec_f, Bool.false_eq_true, Bool.true_eq_false, false_implies, imp_false, and_true, true_and, implies_true, Classical.not_not] at h14
          refine bR_dec (fun h15 => ?_) (fun h15 => ?_)
          ·
            refine bR_i (fun h16 => ?_) (fun h16 => ?_)
            ·
              simp only [bR_iff, bR_iff_f, dec_iff, dec_f, Bool.false_eq_true, Bool.true_eq_false, false_implies, imp_false, and_true, true_and, implies_true, Classical.not_not] at h16
              refine req_i ?_ ?_
              · -- r2
                first | omega | trivial | (simp only [sigRnd0, sigRnd, rndPost0, sigRnd1, rndPost1, rndPost, sigLen, lenPost, sigBnd, bndPost, sigL5, sigPickN, pickPost, sigTrue0, List.cons.injEq, DV.b.injEq, and_true]; omega) | (simp only [sigRnd0, sigRnd, rndPost0, sigRnd1, rndPost1, rndPost, sigLen, lenPost, sigBnd, bndPost, sigL5, sigPickN, pickPost, sigTrue0, List.cons.injEq, DV.b.injEq, and_true]; trivial) | (simp only [sigRnd0, sigRnd, rndPost0, sigRnd1, rndPost1, rndPost, sigLen, lenPost, sigBnd, bndPost, sigL5, sigPickN, pickPost, sigTrue0, List.cons.injEq, DV.b.injEq, and_true]; grind)
              rfl
            ·
              simp only [bR_iff, bR_iff_f, dec_iff, dec_f, Bool.false_eq_true, Bool.true_eq_false, false_implies, imp_false, and_true, true_and, implies_true, Classical.not_not] at h16
              refine bR_dec (fun h17 => ?_) (fun h17 => ?_)
              ·
                refine bR_i (fun h18 => ?_) (fun h18 => ?_)
                ·
                  simp only [bR_iff, bR_iff_f, dec_iff, dec_f, Bool.false_eq_true, Bool.true_eq_false, false_implies, imp_false, and_true, true_and, implies_true, Classical.not_not] at h18
                  refine req_i ?_ ?_
                  · -- r3
                    first | omega | trivial | (simp only [sigRnd0, sigRnd, rndPost0, sigRnd1, rndPost1, rndPost, sigLen, lenPost, sigBnd, bndPost, sigL5, sigPickN, pickPost, sigTrue0, List.cons.injEq, DV.b.injEq, and_true]; omega) | (simp only [sigRnd0, sigRnd, rndPost0, sigRnd1, rndPost1, rndPost, sigLen, lenPost, sigBnd, bndPost, sigL5, sigPickN, pickPost, sigTrue0, List.cons.injEq, DV.b.injEq, and_true]; trivial) | (simp only [sigRnd0, sigRnd, rndPost0, sigRnd1, rndPost1, rndPost, sigLen, lenPost, sigBnd, bndPost, sigL5, sigPickN, pickPost, sigTrue0, List.cons.injEq, DV.b.injEq, and_true]; grind)
                  rfl
                ·
                  simp only [bR_iff, bR_iff_f, dec_iff, dec_f, Bool.false_eq_true, Bool.true_eq_false, false_implies, imp_false, and_true, true_and, implies_true, Classical.not_not] at h18
                  refine bR_dec (fun h19 => ?_) (fun h19 => ?_)
                  ·
                    refine bR_i (fun h20 => ?_) (fun h20 => ?_)
                    ·
                      simp only [bR_iff, bR_iff_f, dec_iff, dec_f, Bool.false_eq_true, Bool.true_eq_false, false_implies, imp_false, and_true, true_and, implies_true, Classical.not_not] at h20
                      refine req_i ?_ ?_
                      · -- r4
                        first | omega | trivial | (simp only [sigRnd0, sigRnd, rndPost0, sigRnd1, rndPost1, rndPost, sigLen, lenPost, sigBnd, bndPost, sigL5, sigPickN, pickPost, sigTrue0, List.cons.injEq, DV.b.injEq, and_true]; omega) | (simp only [sigRnd0, sigRnd, rndPost0, sigRnd1, rndPost1, rndPost, sigLen, lenPost, sigBnd, bndPost, sigL5, sigPickN, pickPost, sigTrue0, List.cons.injEq, DV.b.injEq, and_true]; trivial) | (simp only [sigRnd0, sigRnd, rndPost0, sigRnd1, rndPost1, rndPost, sigLen, lenPost, sigBnd, bndPost, sigL5, sigPickN, pickPost, sigTrue0, List.cons.injEq, DV.b.injEq, and_true]; grind)
                      rfl
                    ·
                      simp only [bR_iff, bR_iff_f, dec_iff, dec_f, Bool.false_eq_true, Bool.true_eq_false, false_implies, imp_false, and_true, true_and, implies_true, Classical.not_not] at h20
                      refine all_i fun n5 => ?_
                      refine imp_i fun h21 => ?_
                      simp only [wrap_i64, wrap_u64, wrap_u32, wrap_i32, wrap_u8, wrap_i8, wrap_u16, wrap_i16] at h21
                      refine imp_i fun h22 => ?_
                      refine imp_i fun h23 => ?_
                      refine req_i ?_ ?_
                      · -- r5
                        first | omega | trivial | (simp only [sigRnd0, sigRnd, rndPost0, sigRnd1, rndPost1, rndPost, sigLen, lenPost, sigBnd, bndPost, sigL5, sigPickN, pickPost, sigTrue0, List.cons.injEq, DV.b.injEq, and_true]; omega) | (simp only [sigRnd0, sigRnd, rndPost0, sigRnd1, rndPost1, rndPost, sigLen, lenPost, sigBnd, bndPost, sigL5, sigPickN, pickPost, sigTrue0, List.cons.injEq, DV.b.injEq, and_true]; trivial) | (simp only [sigRnd0, sigRnd, rndPost0, sigRnd1, rndPost1, rndPost, sigLen, lenPost, sigBnd, bndPost, sigL5, sigPickN, pickPost, sigTrue0, List.cons.injEq, DV.b.injEq, and_true]; grind)
                      refine all_i fun n6 => ?_
                      refine imp_i fun h24 => ?_
                      simp only [wrap_i64, wrap_u64, wrap_u32, wrap_i32, wrap_u8, wrap_i8, wrap_u16, wrap_i16] at h24
                      rw [tdiv_nn (by omega)] at h24
                      have q1 := Int.ediv_nonneg (a := n3) (b := n0) (by omega) (by omega)
                      have q2 := Int.ediv_le_self n0 (show 0 ≤ n3 by omega)
                      refine imp_i fun h25 => ?_
                      refine imp_i fun h26 => ?_
                      refine all_i fun n7 => ?_
                      refine imp_i fun h27 => ?_
                      simp only [wrap_i64, wrap_u64, wrap_u32, wrap_i32, wrap_u8, wrap_i8, wrap_u16, wrap_i16] at h27
                      have e7 : n7 = n1 - n4 + n3 / n0 := by omega
                      have wb := whole_bd (l := n0) (t := n3) (a := n1 - n4) (by omega)
                      rw [← e7] at wb
                      refine imp_i fun h28 => ?_
                      refine imp_i fun h29 => ?_
                      refine bR_dec (fun h30 => ?_) (fun h30 => ?_)
                      ·
                        refine bR_i (fun h31 => ?_) (fun h31 => ?_)
                        ·
                          simp only [bR_iff, bR_iff_f, dec_iff, dec_f, Bool.false_eq_true, Bool.true_eq_false, false_implies, imp_false, and_true, true_and, implies_true, Classical.not_not] at h31
                          refine req_i ?_ ?_
                          · -- r6
                            first | omega | trivial | (simp only [sigRnd0, sigRnd, rndPost0, sigRnd1, rndPost1, rndPost, sigLen, lenPost, sigBnd, bndPost, sigL5, sigPickN, pickPost, sigTrue0, List.cons.injEq, DV.b.injEq, and_true]; omega) | (simp only [sigRnd0, sigRnd, rndPost0, sigRnd1, rndPost1, rndPost, sigLen, lenPost, sigBnd, bndPost, sigL5, sigPickN, pickPost, sigTrue0, List.cons.injEq, DV.b.injEq, and_true]; trivial) | (simp only [sigRnd0, sigRnd, rndPost0, sigRnd1, rndPost1, rndPost, sigLen, lenPost, sigBnd, bndPost, sigL5, sigPickN, pickPost, sigTrue0, List.cons.injEq, DV.b.injEq, and_true]; grind)
                          rfl
                        ·
                          simp only [bR_iff, bR_iff_f, dec_iff, dec_f, Bool.false_eq_true, Bool.true_eq_false, false_implies, imp_false, and_true, true_and, implies_true, Classical.not_not] at h31
                          refine all_i fun n8 => ?_
                          refine imp_i fun h32 => ?_
                          simp only [wrap_i64, wrap_u64, wrap_u32, wrap_i32, wrap_u8, wrap_i8, wrap_u16, wrap_i16] at h32
                          have m1 := mul_in (a := n7) (l := n0) (A := 40000) (L := 8192) (by omega) (by omega) (by omega) (by omega)
                          refine imp_i fun h33 => ?_
                          refine imp_i fun h34 => ?_
                          refine req_i ?_ ?_
                          · -- r7
                            first | omega | trivial | (simp only [sigRnd0, sigRnd, rndPost0, sigRnd1, rndPost1, rndPost, sigLen, lenPost, sigBnd, bndPost, sigL5, sigPickN, pickPost, sigTrue0, List.cons.injEq, DV.b.injEq, and_true]; omega) | (simp only [sigRnd0, sigRnd, rndPost0, sigRnd1, rndPost1, rndPost, sigLen, lenPost, sigBnd, bndPost, sigL5, sigPickN, pickPost, sigTrue0, List.cons.injEq, DV.b.injEq, and_true]; trivial) | (simp only [sigRnd0, sigRnd, rndPost0, sigRnd1, rndPost1, rndPost, sigLen, lenPost, sigBnd, bndPost, sigL5, sigPickN, pickPost, sigTrue0, List.cons.injEq, DV.b.injEq, and_true]; grind)
                          refine all_i fun n9 => ?_
                          refine imp_i fun h35 => ?_
                          simp only [wrap_i64, wrap_u64, wrap_u32, wrap_i32, wrap_u8, wrap_i8, wrap_u16, wrap_i16] at h35
                          rw [tmod_nn (by omega)] at h35
                          have p1 := Int.emod_nonneg n3 (b := n0) (by omega)
                          have p2 := Int.emod_lt_of_pos n3 (b := n0) (by omega)
                          have we := whole_eq (l := n0) (t := n3) (a := n1 - n4)
                          rw [← e7] at we
                          have e9 : n9 = (n1 - n4) * n0 + n3 := by omega
                          refine imp_i fun h36 => ?_
                          refine imp_i fun h37 => ?_
                          refine all_i fun n10 => ?_
                          refine imp_i fun h38 => ?_
                          simp only [wrap_i64, wrap_u64, wrap_u32, wrap_i32, wrap_u8, wrap_i8, wrap_u16, wrap_i16] at h38
                          have e10 : n10 = 299792458 * ((n1 - n4) * n0 + n3) := by omega
                          refine imp_i fun h39 => ?_
                          refine imp_i fun h40 => ?_
                          refine req_i ?_ ?_
                          · -- r8
                            first | omega | trivial | (simp only [sigRnd0, sigRnd, rndPost0, sigRnd1, rndPost1, rndPost, sigLen, lenPost, sigBnd, bndPost, sigL5, sigPickN, pickPost, sigTrue0, List.cons.injEq, DV.b.injEq, and_true]; omega) | (simp only [sigRnd0, sigRnd, rndPost0, sigRnd1, rndPost1, rndPost, sigLen, lenPost, sigBnd, bndPost, sigL5, sigPickN, pickPost, sigTrue0, List.cons.injEq, DV.b.injEq, and_true]; trivial) | (simp only [sigRnd0, sigRnd, rndPost0, sigRnd1, rndPost1, rndPost, sigLen, lenPost, sigBnd, bndPost, sigL5, sigPickN, pickPost, sigTrue0, List.cons.injEq, DV.b.injEq, and_true]; grind)
                          refine req_i ?_ ?_
                          · -- r9
                            first | omega | trivial | (simp only [sigRnd0, sigRnd, rndPost0, sigRnd1, rndPost1, rndPost, sigLen, lenPost, sigBnd, bndPost, sigL5, sigPickN, pickPost, sigTrue0, List.cons.injEq, DV.b.injEq, and_true]; omega) | (simp only [sigRnd0, sigRnd, rndPost0, sigRnd1, rndPost1, rndPost, sigLen, lenPost, sigBnd, bndPost, sigL5, sigPickN, pickPost, sigTrue0, List.cons.injEq, DV.b.injEq, and_true]; trivial) | (simp only [sigRnd0, sigRnd, rndPost0, sigRnd1, rndPost1, rndPost, sigLen, lenPost, sigBnd, bndPost, sigL5, sigPickN, pickPost, sigTrue0, List.cons.injEq, DV.b.injEq, and_true]; grind)
                          refine req_i ?_ ?_
                          · -- r10
                            first | omega | trivial | (simp only [sigRnd0, sigRnd, rndPost0, sigRnd1, rndPost1, rndPost, sigLen, lenPost, sigBnd, bndPost, sigL5, sigPickN, pickPost, sigTrue0, List.cons.injEq, DV.b.injEq, and_true]; omega) | (simp only [sigRnd0, sigRnd, rndPost0, sigRnd1, rndPost1, rndPost, sigLen, lenPost, sigBnd, bndPost, sigL5, sigPickN, pickPost, sigTrue0, List.cons.injEq, DV.b.injEq, and_true]; trivial) | (simp only [sigRnd0, sigRnd, rndPost0, sigRnd1, rndPost1, rndPost, sigLen, lenPost, sigBnd, bndPost, sigL5, sigPickN, pickPost, sigTrue0, List.cons.injEq, DV.b.injEq, and_true]; grind)
                          refine req_i ?_ ?_
                          · -- r11
                            first | omega | trivial | (simp only [sigRnd0, sigRnd, rndPost0, sigRnd1, rndPost1, rndPost, sigLen, lenPost, sigBnd, bndPost, sigL5, sigPickN, pickPost, sigTrue0, List.cons.injEq, DV.b.injEq, and_true]; omega) | (simp only [sigRnd0, sigRnd, rndPost0, sigRnd1, rndPost1, rndPost, sigLen, lenPost, sigBnd, bndPost, sigL5, sigPickN, pickPost, sigTrue0, List.cons.injEq, DV.b.injEq, and_true]; trivial) | (simp only [sigRnd0, sigRnd, rndPost0, sigRnd1, rndPost1, rndPost, sigLen, lenPost, sigBnd, bndPost, sigL5, sigPickN, pickPost, sigTrue0, List.cons.injEq, DV.b.injEq, and_true]; grind)
                          refine req_i ?_ ?_
                          · -- r12
                            first | omega | trivial | (simp only [sigRnd0, sigRnd, rndPost0, sigRnd1, rndPost1, rndPost, sigLen, lenPost, sigBnd, bndPost, sigL5, sigPickN, pickPost, sigTrue0, List.cons.injEq, DV.b.injEq, and_true]; omega) | (simp only [sigRnd0, sigRnd, rndPost0, sigRnd1, rndPost1, rndPost, sigLen, lenPost, sigBnd, bndPost, sigL5, sigPickN, pickPost, sigTrue0, List.cons.injEq, DV.b.injEq, and_true]; trivial) | (simp only [sigRnd0, sigRnd, rndPost0, sigRnd1, rndPost1, rndPost, sigLen, lenPost, sigBnd, bndPost, sigL5, sigPickN, pickPost, sigTrue0, List.cons.injEq, DV.b.injEq, and_true]; grind)
                          refine all_i fun n11 => ?_
                          refine imp_i fun h41 => ?_
                          refine imp_i fun h42 => ?_
                          refine imp_i fun h43 => ?_
                          try simp only [sigRnd0, sigRnd, rndPost0, sigRnd1, rndPost1, rndPost, sigLen, lenPost, sigBnd, bndPost, sigL5, sigPickN, pickPost, sigTrue0, List.cons.injEq, DV.b.injEq, and_true] at h43
                          rw [e10] at h43
                          refine bR_dec (fun h44 => ?_) (fun h44 => ?_)
                          ·
                            refine bR_i (fun h45 => ?_) (fun h45 => ?_)
                            ·
                              simp only [bR_iff, bR_iff_f, dec_iff, dec_f, Bool.false_eq_true, Bool.true_eq_false, false_implies, imp_false, and_true, true_and, implies_true, Classical.not_not] at h45
                              refine req_i ?_ ?_
                              · -- r13
                                first | omega | trivial | (simp only [sigRnd0, sigRnd, rndPost0, sigRnd1, rndPost1, rndPost, sigLen, lenPost, sigBnd, bndPost, sigL5, sigPickN, pickPost, sigTrue0, List.cons.injEq, DV.b.injEq, and_true]; omega) | (simp only [sigRnd0, sigRnd, rndPost0, sigRnd1, rndPost1, rndPost, sigLen, lenPost, sigBnd, bndPost, sigL5, sigPickN, pickPost, sigTrue0, List.cons.injEq, DV.b.injEq, and_true]; trivial) | (simp only [sigRnd0, sigRnd, rndPost0, sigRnd1, rndPost1, rndPost, sigLen, lenPost, sigBnd, bndPost, sigL5, sigPickN, pickPost, sigTrue0, List.cons.injEq, DV.b.injEq, and_true]; grind)
                              rfl
                            ·
                              simp only [bR_iff, bR_iff_f, dec_iff, dec_f, Bool.false_eq_true, Bool.true_eq_false, false_implies, imp_false, and_true, true_and, implies_true, Classical.not_not] at h45
                              refine req_i ?_ ?_
                              · -- r14
                                first | omega | trivial | (simp only [sigRnd0, sigRnd, rndPost0, sigRnd1, rndPost1, rndPost, sigLen, lenPost, sigBnd, bndPost, sigL5, sigPickN, pickPost, sigTrue0, List.cons.injEq, DV.b.injEq, and_true]; omega) | (simp only [sigRnd0, sigRnd, rndPost0, sigRnd1, rndPost1, rndPost, sigLen, lenPost, sigBnd, bndPost, sigL5, sigPickN, pickPost, sigTrue0, List.cons.injEq, DV.b.injEq, and_true]; trivial) | (simp only [sigRnd0, sigRnd, rndPost0, sigRnd1, rndPost1, rndPost, sigLen, lenPost, sigBnd, bndPost, sigL5, sigPickN, pickPost, sigTrue0, List.cons.injEq, DV.b.injEq, and_true]; grind)
                              refine req_i ?_ ?_
                              · -- r15
                                first | omega | trivial | (simp only [sigRnd0, sigRnd, rndPost0, sigRnd1, rndPost1, rndPost, sigLen, lenPost, sigBnd, bndPost, sigL5, sigPickN, pickPost, sigTrue0, List.cons.injEq, DV.b.injEq, and_true]; omega) | (simp only [sigRnd0, sigRnd, rndPost0, sigRnd1, rndPost1, rndPost, sigLen, lenPost, sigBnd, bndPost, sigL5, sigPickN, pickPost, sigTrue0, List.cons.injEq, DV.b.injEq, and_true]; trivial) | (simp only [sigRnd0, sigRnd, rndPost0, sigRnd1, rndPost1, rndPost, sigLen, lenPost, sigBnd, bndPost, sigL5, sigPickN, pickPost, sigTrue0, List.cons.injEq, DV.b.injEq, and_true]; grind)
                              refine req_i ?_ ?_
                              · -- r16
                                first | omega | trivial | (simp only [sigRnd0, sigRnd, rndPost0, sigRnd1, rndPost1, rndPost, sigLen, lenPost, sigBnd, bndPost, sigL5, sigPickN, pickPost, sigTrue0, List.cons.injEq, DV.b.injEq, and_true]; omega) | (simp only [sigRnd0, sigRnd, rndPost0, sigRnd1, rndPost1, rndPost, sigLen, lenPost, sigBnd, bndPost, sigL5, sigPickN, pickPost, sigTrue0, List.cons.injEq, DV.b.injEq, and_true]; trivial) | (simp only [sigRnd0, sigRnd, rndPost0, sigRnd1, rndPost1, rndPost, sigLen, lenPost, sigBnd, bndPost, sigL5, sigPickN, pickPost, sigTrue0, List.cons.injEq, DV.b.injEq, and_true]; grind)
                              rfl
                          ·
                            refine req_i ?_ ?_
                            · -- r17
                              first | omega | trivial | (simp only [sigRnd0, sigRnd, rndPost0, sigRnd1, rndPost1, rndPost, sigLen, lenPost, sigBnd, bndPost, sigL5, sigPickN, pickPost, sigTrue0, List.cons.injEq, DV.b.injEq, and_true]; omega) | (simp only [sigRnd0, sigRnd, rndPost0, sigRnd1, rndPost1, rndPost, sigLen, lenPost, sigBnd, bndPost, sigL5, sigPickN, pickPost, sigTrue0, List.cons.injEq, DV.b.injEq, and_true]; trivial) | (simp only [sigRnd0, sigRnd, rndPost0, sigRnd1, rndPost1, rndPost, sigLen, lenPost, sigBnd, bndPost, sigL5, sigPickN, pickPost, sigTrue0, List.cons.injEq, DV.b.injEq, and_true]; grind)
                            rfl
                      ·
                        refine req_i ?_ ?_
                        · -- r18
                          first | omega | trivial | (simp only [sigRnd0, sigRnd, rndPost0, sigRnd1, rndPost1, rndPost, sigLen, lenPost, sigBnd, bndPost, sigL5, sigPickN, pickPost, sigTrue0, List.cons.injEq, DV.b.injEq, and_true]; omega) | (simp only [sigRnd0, sigRnd, rndPost0, sigRnd1, rndPost1, rndPost, sigLen, lenPost, sigBnd, bndPost, sigL5, sigPickN, pickPost, sigTrue0, List.cons.injEq, DV.b.injEq, and_true]; trivial) | (simp only [sigRnd0, sigRnd, rndPost0, sigRnd1, rndPost1, rndPost, sigLen, lenPost, sigBnd, bndPost, sigL5, sigPickN, pickPost, sigTrue0, List.cons.injEq, DV.b.injEq, and_true]; grind)
                        rfl
                  ·
                    refine req_i ?_ ?_
                    · -- r19
                      first | omega | trivial | (simp only [sigRnd0, sigRnd, rndPost0, sigRnd1, rndPost1, rndPost, sigLen, lenPost, sigBnd, bndPost, sigL5, sigPickN, pickPost, sigTrue0, List.cons.injEq, DV.b.injEq, and_true]; omega) | (simp only [sigRnd0, sigRnd, rndPost0, sigRnd1, rndPost1, rndPost, sigLen, lenPost, sigBnd, bndPost, sigL5, sigPickN, pickPost, sigTrue0, List.cons.injEq, DV.b.injEq, and_true]; trivial) | (simp only [sigRnd0, sigRnd, rndPost0, sigRnd1, rndPost1, rndPost, sigLen, lenPost, sigBnd, bndPost, sigL5, sigPickN, pickPost, sigTrue0, List.cons.injEq, DV.b.injEq, and_true]; grind)
                    rfl
              ·
                refine req_i ?_ ?_
                · -- r20
                  first | omega | trivial | (simp only [sigRnd0, sigRnd, rndPost0, sigRnd1, rndPost1, rndPost, sigLen, lenPost, sigBnd, bndPost, sigL5, sigPickN, pickPost, sigTrue0, List.cons.injEq, DV.b.injEq, and_true]; omega) | (simp only [sigRnd0, sigRnd, rndPost0, sigRnd1, rndPost1, rndPost, sigLen, lenPost, sigBnd, bndPost, sigL5, sigPickN, pickPost, sigTrue0, List.cons.injEq, DV.b.injEq, and_true]; trivial) | (simp only [sigRnd0, sigRnd, rndPost0, sigRnd1, rndPost1, rndPost, sigLen, lenPost, sigBnd, bndPost, sigL5, sigPickN, pickPost, sigTrue0, List.cons.injEq, DV.b.injEq, and_true]; grind)
                rfl
          ·
            refine req_i ?_ ?_
            · -- r21
              first | omega | trivial | (simp only [sigRnd0, sigRnd, rndPost0, sigRnd1, rndPost1, rndPost, sigLen, lenPost, sigBnd, bndPost, sigL5, sigPickN, pickPost, sigTrue0, List.cons.injEq, DV.b.injEq, and_true]; omega) | (simp only [sigRnd0, sigRnd, rndPost0, sigRnd1, rndPost1, rndPost, sigLen, lenPost, sigBnd, bndPost, sigL5, sigPickN, pickPost, sigTrue0, List.cons.injEq, DV.b.injEq, and_true]; trivial) | (simp only [sigRnd0, sigRnd, rndPost0, sigRnd1, rndPost1, rndPost, sigLen, lenPost, sigBnd, bndPost, sigL5, sigPickN, pickPost, sigTrue0, List.cons.injEq, DV.b.injEq, and_true]; grind)
            rfl
      ·
        refine req_i ?_ ?_
        · -- r22
          first | omega | trivial | (simp only [sigRnd0, sigRnd, rndPost0, sigRnd1, rndPost1, rndPost, sigLen, lenPost, sigBnd, bndPost, sigL5, sigPickN, pickPost, sigTrue0, List.cons.injEq, DV.b.injEq, and_true]; omega) | (simp only [sigRnd0, sigRnd, rndPost0, sigRnd1, rndPost1, rndPost, sigLen, lenPost, sigBnd, bndPost, sigL5, sigPickN, pickPost, sigTrue0, List.cons.injEq, DV.b.injEq, and_true]; trivial) | (simp only [sigRnd0, sigRnd, rndPost0, sigRnd1, rndPost1, rndPost, sigLen, lenPost, sigBnd, bndPost, sigL5, sigPickN, pickPost, sigTrue0, List.cons.injEq, DV.b.injEq, and_true]; grind)
        rfl
  ·
    refine req_i ?_ ?_
    · -- r23
      first | omega | trivial | (simp only [sigRnd0, sigRnd, rndPost0, sigRnd1, rndPost1, rndPost, sigLen, lenPost, sigBnd, bndPost, sigL5, sigPickN, pickPost, sigTrue0, List.cons.injEq, DV.b.injEq, and_true]; omega) | (simp only [sigRnd0, sigRnd, rndPost0, sigRnd1, rndPost1, rndPost, sigLen, lenPost, sigBnd, bndPost, sigL5, sigPickN, pickPost, sigTrue0, List.cons.injEq, DV.b.injEq, and_true]; trivial) | (simp only [sigRnd0, sigRnd, rndPost0, sigRnd1, rndPost1, rndPost, sigLen, lenPost, sigBnd, bndPost, sigL5, sigPickN, pickPost, sigTrue0, List.cons.injEq, DV.b.injEq, and_true]; grind)
    rfl
theorem ext_length : ∀ p ∈ ([(31, Ext.ctr (ctOf sigRnd))] : List (Nat × Ext)), ExtRow Try.prog p.1 p.2 := by
  intro p hp
  simp only [List.mem_cons, List.not_mem_nil, or_false] at hp
  rcases hp with rfl <;> trivial
theorem cts_length : CtsOk Try.prog [(31, Ext.ctr (ctOf sigRnd))] := ctsOk_of (cs := [(31, sigRnd)])
  (fun p hp => by
    simp only [List.mem_cons, List.not_mem_nil, or_false] at hp
    rcases hp with rfl
    · exact fn_rnd
)
  (fun f c h => by
    simp only [List.lookup_cons] at h
    repeat' split at h
    all_goals first | (cases h; done) | (rename_i e; have e := beq_iff_eq.1 e; subst e; cases h; exact ⟨_, by simp, rfl⟩))
theorem fn_length : FnOk Try.prog 15 sigLen [] := fn_sound (by kernel_rfl) ext_length cts_length names vt_length
end Go.Proofs.Ytagndcelalcmpaa
