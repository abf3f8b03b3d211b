/- What package resume returns: the function that is handed on, and gathering. -/
import Derived.Test.YtmnhepcnbdbhoaaResume
import Derived.Test.YtmnhepcnbdbhoaaKit8
import Derived.Test.YtmnhepcnbdbhoaaGC
namespace Go.Proofs.Ytmnhepcnbdbhoaa.Rs
open Go.Proofs Go.RowKit Go.Proofs.Ytmnhepcnbdbhoaa.Kit Go.Proofs.Ytmnhepcnbdbhoaa.M01 Go.Proofs.Ytmnhepcnbdbhoaa.M02 Go.Proofs.Ytmnhepcnbdbhoaa.M06 Go.Proofs.Ytmnhepcnbdbhoaa.M07 Go.Proofs.Ytmnhepcnbdbhoaa.M08 Go.Proofs.Ytmnhepcnbdbhoaa.M10 Go.Proofs.Ytmnhepcnbdbhoaa.Bt Go.Proofs.Ytmnhepcnbdbhoaa.Un Go.Proofs.Ytmnhepcnbdbhoaa.Ri
set_option linter.unusedVariables false
attribute [local irreducible] wpStill

theorem box1D {w : World} {g : Nat} {u : Value} (h : Box1 w g u) : Box1 w.drew g u := ⟨h.c0, h.f0⟩

set_option maxHeartbeats 4000000 in
theorem one10_ok (g0 g1 g2 : Nat) (a : Option Addr) (len cap : Nat) (xs : List Int) (n p N X l m : Int) (d Y : D4) (A : Option Addr) (L C : Nat) (w : World) (hr : RowIn .u8 w a len cap xs) (hn : isInt n) (hp : isInt p) (hd : isD d)
    (b0 : Box2 w g0 (.slice a len cap) (.int .i64 n)) (b1 : Box1 w g1 (.int .i64 p)) (b2 : Box7 w g2 (.int .i64 l) (.int .i64 d.a) (.int .i64 d.b) (.int .u64 d.s) (.int .u64 d.t) (.slice A L C) (.int .i64 m)) (n01 : g0 ≠ g1) (n02 : g0 ≠ g2) (n12 : g1 ≠ g2)
    (hE : drE xs n p d = 0) (hN : drN xs n p d = N) (hX : drX xs n p d = X) (hY : drD xs n p d = Y) :
    Calls Try.prog 28 #[.pointer (some ⟨g0, 0, none⟩), .pointer (some ⟨g1, 0, none⟩), .pointer (some ⟨g2, 0, none⟩)] w fun e w' => e = .returned (.tuple #[.int .u32 N, .int .i64 0]) ∧
      Box1 w' g1 (.int .i64 X) ∧ Box7 w' g2 (.int .i64 l) (.int .i64 Y.a) (.int .i64 Y.b) (.int .u64 Y.s) (.int .u64 Y.t) (.slice A L C) (.int .i64 m) ∧ But g1 g2 w w' := by
  have hR := fun w' hb => Du.drd_any a len cap xs n p d w' (hr.same (w' := w') hb) hn hp hd
  rw [hE, hN, hX, hY] at hR
  unfold bv Du.dv at hR
  clear hE hN hX hY hr
  obtain ⟨da, db, ds, dt⟩ := d
  obtain ⟨ya, yb, ys, yt⟩ := Y
  simp only at hR b2 ⊢
  have l0 := World.block_lt_of_cell? w _ b0.c0
  have l1 := World.block_lt_of_cell? w _ b1.c0
  have l2 := b2.lt
  obtain ⟨u0, u1, v0, v1⟩ := id b0
  obtain ⟨c0, f0⟩ := id b1
  obtain ⟨p0, p1, p2, p3, p4, p5, p6, q0, q1, q2, q3, q4, q5, q6⟩ := id b2
  go_enter Try.func28, Try.ntmps28
  go_wp2_with (go_at_call 29; (with_reducible refine (hR _ (Below.refl _ _)).mono ?_); rintro e w1 ⟨rfl, hb1⟩; have z1 := hb1.size; have K1 := b1.below hb1 l1; have K2 := b2.below hb1 l2; clear u0 u1 v0 v1 c0 f0 p0 p1 p2 p3 p4 p5 p6 q0 q1 q2 q3 q4 q5 q6)
  have J1 := K1.below (below1 w1 (.cells #[.int .i64 ya, .int .i64 yb, .int .u64 ys, .int .u64 yt] 24)) (show g1 < w1.heap.size by omega)
  have J2 := box7A (o := (.cells #[.int .i64 ya, .int .i64 yb, .int .u64 ys, .int .u64 yt] 24)) K2
  have J3 := Box4.of (blk1 w1 (.cells #[.int .i64 ya, .int .i64 yb, .int .u64 ys, .int .u64 yt] 24))
  have hB2 : But g1 g2 w (w1.alloc (.cells #[.int .i64 ya, .int .i64 yb, .int .u64 ys, .int .u64 yt] 24)) := (But.of hb1).trans (But.of (below1 _ _))
  have z2 : w1.heap.size < (w1.alloc (.cells #[.int .i64 ya, .int .i64 yb, .int .u64 ys, .int .u64 yt] 24)).heap.size := by rw [size1]; omega
  generalize (w1.alloc (.cells #[.int .i64 ya, .int .i64 yb, .int .u64 ys, .int .u64 yt] 24)) = w2 at *
  obtain ⟨G, hG⟩ : ∃ G, w1.heap.size = G := ⟨_, rfl⟩
  simp only [hG] at J3 z1 z2 ⊢
  clear hG hb1 K1 K2 b0 b1 b2
  obtain ⟨c0, f0⟩ := id J1
  obtain ⟨p0, p1, p2, p3, p4, p5, p6, q0, q1, q2, q3, q4, q5, q6⟩ := id J2
  obtain ⟨r0, r1, r2, r3, s0, s1, s2, s3⟩ := J3
  have n21 := n12.symm
  have m1 : G ≠ g1 := by omega
  have m2 : G ≠ g2 := by omega
  go_region
  go_wp2
  go_ret2
  have e1 := ((((J1.put (.int .i64 X)).set (i := 1) (x := .int .i64 ya) n12).set (i := 2) (x := .int .i64 yb) n12).set (i := 3) (x := .int .u64 ys) n12).set (i := 4) (x := .int .u64 yt) n12
  exact ⟨rfl, box1D e1, (((((J2.set (i := 0) (x := .int .i64 X) n21).put1 (.int .i64 ya)).put2 (.int .i64 yb)).put3 (.int .u64 ys)).put4 (.int .u64 yt)).drew, ((((hB2.set1.set2).set2).set2).set2).drew⟩

set_option maxHeartbeats 4000000 in
theorem one10_no (g0 g1 g2 : Nat) (a : Option Addr) (len cap : Nat) (xs : List Int) (n p N X E l m : Int) (d Y : D4) (A : Option Addr) (L C : Nat) (w : World) (hr : RowIn .u8 w a len cap xs) (hn : isInt n) (hp : isInt p) (hd : isD d)
    (b0 : Box2 w g0 (.slice a len cap) (.int .i64 n)) (b1 : Box1 w g1 (.int .i64 p)) (b2 : Box7 w g2 (.int .i64 l) (.int .i64 d.a) (.int .i64 d.b) (.int .u64 d.s) (.int .u64 d.t) (.slice A L C) (.int .i64 m))
    (hE : drE xs n p d = E) (hE0 : E ≠ 0) (hN : drN xs n p d = N) (hX : drX xs n p d = X) (hY : drD xs n p d = Y) :
    Calls Try.prog 28 #[.pointer (some ⟨g0, 0, none⟩), .pointer (some ⟨g1, 0, none⟩), .pointer (some ⟨g2, 0, none⟩)] w fun e w' => e = .returned (.tuple #[.int .u32 N, .int .i64 E]) ∧ Below w.heap.size w w' := by
  have hR := fun w' hb => Du.drd_any a len cap xs n p d w' (hr.same (w' := w') hb) hn hp hd
  rw [hE, hN, hX, hY] at hR
  unfold bv Du.dv at hR
  clear hE hN hX hY hr
  obtain ⟨da, db, ds, dt⟩ := d
  obtain ⟨ya, yb, ys, yt⟩ := Y
  simp only at hR b2 ⊢
  have f1 : (E = 0) = False := eq_false hE0
  have l0 := World.block_lt_of_cell? w _ b0.c0
  have l1 := World.block_lt_of_cell? w _ b1.c0
  have l2 := b2.lt
  obtain ⟨u0, u1, v0, v1⟩ := id b0
  obtain ⟨c0, f0⟩ := id b1
  obtain ⟨p0, p1, p2, p3, p4, p5, p6, q0, q1, q2, q3, q4, q5, q6⟩ := id b2
  go_enter Try.func28, Try.ntmps28
  go_wp2_with (go_at_call 29; (with_reducible refine (hR _ (Below.refl _ _)).mono ?_); rintro e w1 ⟨rfl, hb1⟩; have z1 := hb1.size)
  go_ret2
  exact ⟨rfl, hb1.alloc (by omega) _⟩

set_option maxRecDepth 100000 in
set_option maxRecDepth 2000 in
set_option maxHeartbeats 4000000 in
theorem gather_any (g0 g1 g2 : Nat) (a : Option Addr) (len cap : Nat) (xs : List Int) (n l m : Int) (d : D4) (A : Option Addr) (L C K : Nat) (w : World) (hr : RowIn .u8 w a len cap xs) (hn : isInt n) (hok : okB xs n = true) (hod : okD d = true) (hd : isD d) (hK : K ≤ 4000)
    (b0 : Box2 w g0 (.slice a len cap) (.int .i64 n)) (b1 : Box1 w g1 (.int .i64 0)) (b2 : Box7 w g2 (.int .i64 l) (.int .i64 d.a) (.int .i64 d.b) (.int .u64 d.s) (.int .u64 d.t) (.slice A L C) (.int .i64 m)) (n01 : g0 ≠ g1) (n02 : g0 ≠ g2) (n12 : g1 ≠ g2)
    (hne : xs ≠ [] → ∀ x, a = some x → x.block ≠ g1 ∧ x.block ≠ g2) :
    Calls Try.prog 30 #[.int .i64 K, .func (.func 28) #[] #[.pointer (some ⟨g0, 0, none⟩), .pointer (some ⟨g1, 0, none⟩), .pointer (some ⟨g2, 0, none⟩)]] w fun e w' => ∃ a' c', e = .returned (.tuple #[.slice a' (fdL xs n K 0 d).length c', .int .i64 (M09.rdE xs n K 0 d)]) ∧ RowIn .u32 w' a' (fdL xs n K 0 d).length c' (fdL xs n K 0 d) ∧
      Box1 w' g1 (.int .i64 (fdP xs n K 0 d)) ∧ Box7 w' g2 (.int .i64 l) (.int .i64 (fdT xs n K 0 d).a) (.int .i64 (fdT xs n K 0 d).b) (.int .u64 (fdT xs n K 0 d).s) (.int .u64 (fdT xs n K 0 d).t) (.slice A L C) (.int .i64 m) ∧ But g1 g2 w w' ∧ Fresh w a' := by
  have hent := enters_of Try.func28 (by kernel_rfl) rfl
  have hby := byte_of hr.rd
  have HOK := okB_iff.1 hok
  have l1 := World.block_lt_of_cell? w _ b1.c0
  have l2 := b2.lt
  obtain ⟨i0, hi, hz0, hz1, hz2⟩ := info_parts Co.info9_u32
  have hsz4 : (Try.prog.info? 40).map (·.size) = some 1 := by kernel_rfl
  have hstop := fun j (hj : j < K) => rd_stop (xs := xs) (n := n) j K 0 d hj
  have hlen := M09.rd_len xs n
  have HS := hid hstop
  have HBY := hid hby
  clear hstop hby hok
  go_enter Try.func30, Try.ntmps30
  go_wp2_with (at_make; refine makeI rfl _ _ 34 rfl w.heap.size 40 i0 4 .u32 Try.underlying34 hi hz0 hz1 hz2 _ K rfl rfl rfl (by omega) (by omega) (Nat.le_refl _) ?_; intro w1 hown hgr hb1 hsz)
  go_loopw [14] (fun t wr => ∃ j : Nat, j ≤ K ∧ t = .int .i64 j ∧ Hid (M09.rdE xs n j 0 d = 0) ∧ Box1 wr g1 (.int .i64 (M09.rdP xs n j 0 d)) ∧ (∃ S, S = M09.rdT xs n j 0 d ∧ Box7 wr g2 (.int .i64 l) (.int .i64 S.a) (.int .i64 S.b) (.int .u64 S.s) (.int .u64 S.t) (.slice A L C) (.int .i64 m)) ∧ OwnI .u32 wr w.heap.size 40 (.slice (some ⟨w.heap.size, 0, none⟩) K K) (M09.rdL xs n j 0 d ++ List.replicate (K - j) 0) ∧ But g1 g2 w wr) (fun t _ => K - (intOf t).toNat)
  case atStart => exact ⟨0, by omega, by go_num, hid rfl, b1.below hb1 l1, ⟨d, rfl, b2.below hb1 l2⟩, by simpa [M09.rdL] using hown, But.of hb1⟩
  case round =>
    obtain ⟨j, hj, rfl, hE, X1, ⟨S, eS, X2⟩, ho, hb⟩ := hrel
    clear hown hgr hb1 hsz
    obtain ⟨sok, sd, p0, pn⟩ := M09.rd_state HBY.out j 0 d hod hd (by omega) HOK.1 hE.out
    rw [← eS] at sok sd
    have hrr := hr.but hb hne
    have hno1 : (Value.slice (some ⟨w.heap.size, 0, none⟩) K K).ownBlock ≠ some g1 := by intro h; simp [Value.ownBlock] at h; omega
    have hno2 : (Value.slice (some ⟨w.heap.size, 0, none⟩) K K).ownBlock ≠ some g2 := by intro h; simp [Value.ownBlock] at h; omega
    have hLk := hlen j 0 d
    have zr : w.heap.size < wr.heap.size := ho.base.2
    by_cases hlt : j < K
    · have hst := HS.out j hlt hE.out
      have hsn := M09.rdE_snoc xs n j 0 d hE.out
      have hLs := M09.rdL_snoc xs n j 0 d
      have hPs := M09.rdP_snoc xs n j 0 d
      have hTs := M09.rdT_snoc xs n j 0 d
      rw [← eS] at hst hsn hLs hPs hTs
      obtain ⟨P, hP⟩ : ∃ x, M09.rdP xs n j 0 d = x := ⟨_, rfl⟩
      simp only [hP] at hst hsn hLs hPs hTs X1 p0 pn ⊢
      obtain ⟨E, hEE⟩ : ∃ x, drE xs n P S = x := ⟨_, rfl⟩
      obtain ⟨V, hV⟩ : ∃ x, drN xs n P S = x := ⟨_, rfl⟩
      obtain ⟨X, hX⟩ : ∃ x, drX xs n P S = x := ⟨_, rfl⟩
      obtain ⟨T, hT⟩ : ∃ x, drD xs n P S = x := ⟨_, rfl⟩
      have B0 := b0.but hb n01 n02
      have ho1 := fun (h : E = 0) => one10_ok g0 g1 g2 a len cap xs n P V X l m S T A L C wr hrr hn (by unfold isInt; omega) sd B0 X1 X2 n01 n02 n12 (by rw [hEE]; exact h) hV hX hT
      have ho2 := fun (h : E ≠ 0) => one10_no g0 g1 g2 a len cap xs n P V X E l m S T A L C wr hrr hn (by unfold isInt; omega) sd B0 X1 X2 hEE h hV hX hT
      simp only [hEE, hV, hX, hT] at hst hsn hLs hPs hTs
      have hvU : isU V := by rw [← hV]; exact M09.drN_isU HBY.out
      clear hEE hV hX hT sok sd hrr
      by_cases hE0 : E = 0
      · have hc := ho1 hE0
        clear ho1 ho2
        subst hE0
        have hfill := Co.fill9 (L := M09.rdL xs n j 0 d) V hLk hlt
        rw [← hLs] at hfill
        have hflen := Co.fill9_len (L := M09.rdL xs n j 0 d) hLk (Nat.le_of_lt hlt)
        have HF := hid hfill
        have HQ := hid (And.intro hsn (And.intro hPs hTs))
        obtain ⟨R, hR⟩ : ∃ x, M09.rdL xs n j 0 d ++ List.replicate (K - j) 0 = x := ⟨_, rfl⟩
        rw [hR] at ho hflen
        have HR := hid hR
        obtain ⟨o, hoo⟩ : ∃ x, R.getD j 0 = x := ⟨_, rfl⟩
        clear hfill hst hsn hPs hTs hLs hLk eS hR hP
        go_wp2_with ((first | (go_at_call 28; with_reducible refine hc.mono ?_) | (with_reducible refine hc.mono ?_)); rintro e w4 ⟨rfl, k1, k2, hb4⟩; have ho4 := ho.but hb4 hno1 hno2; have z4 := hb4.size; have hcl := ho4.cell j (by omega); rw [hoo] at hcl; have hfr := ho4.free j; have hz4 : w.heap.size < w4.heap.size := (by omega); clear ho)
        go_roundw
        case rel =>
          obtain ⟨hsn, hPs, hTs⟩ := HQ.out
          have h4 := (ho4.set j V).1
          rw [← HR.out, HF.out] at h4
          exact ⟨j + 1, by omega, by go_num, hid hsn, by rw [hPs]; exact k1.set (by omega), ⟨T, hTs.symm, k2.set (by omega)⟩, h4, (hb.trans hb4).new (by omega)⟩
        case measure => simp [intOf]; omega
      · have hc := ho2 hE0
        obtain ⟨t1, t2, t3, t4⟩ := hst hE0
        clear ho1 ho2 hst hsn hPs hTs hLs
        have f1 : (E = 0) = False := eq_false hE0
        have f2 : (E != 0) = true := bne_iff_ne.2 hE0
        have HT := hid (And.intro t1 (And.intro t2 (And.intro t3 t4)))
        clear t1 t2 t3 t4
        have hwf := M09.okV_wf (M09.rdL_okV (n := n) HBY.out j 0 d)
        have hwz : ∀ x ∈ M09.rdL xs n j 0 d ++ List.replicate (K - j) 0, (Lit.int .u32 x).wf = true := fun x hx => by
          rcases List.mem_append.1 hx with hx | hx
          · exact hwf x hx
          · rw [(List.mem_replicate.1 hx).2]; rfl
        have hRl := Co.fill9_len (L := M09.rdL xs n j 0 d) hLk (Nat.le_of_lt hlt)
        have hRt : (M09.rdL xs n j 0 d ++ List.replicate (K - j) 0).take j = M09.rdL xs n j 0 d := by rw [List.take_append_of_le_length (by omega), List.take_of_length_le (by omega)]
        obtain ⟨Y, hY⟩ : ∃ x, M09.rdL xs n j 0 d = x := ⟨_, rfl⟩
        rw [hY] at hwf hRt hLk HT
        obtain ⟨R, hR⟩ : ∃ x, M09.rdL xs n j 0 d ++ List.replicate (K - j) 0 = x := ⟨_, rfl⟩
        rw [hY] at hR
        rw [hY, hR] at ho hwz hRl
        rw [hR] at hRt
        clear hY hR hP
        go_wp2_with (first  | ((first | (go_at_call 28; with_reducible refine hc.mono ?_) | (with_reducible refine hc.mono ?_)); rintro e w4 ⟨rfl, hb4⟩; have ho4 := ho.below hb4; have z4 := hb4.size; have X14 := X1.below hb4 (by omega); have X24 := X2.below hb4 (by omega); clear ho)  | (at_make; refine makeI rfl _ _ 34 rfl w4.heap.size 40 i0 4 .u32 Try.underlying34 hi hz0 hz1 hz2 _ j rfl rfl rfl (by omega) (by omega) (Nat.le_refl _) ?_; intro w5 hown5 hgr5 hb5 hsz5; have ho5 := (ho4.below hb5).rowLit hwz)  | ((with_reducible refine copyLess rfl _ _ 34 rfl 40 Try.underlying34 hsz4 .u32 w4.heap.size w4.heap.size j j _ hown5 (some ⟨w.heap.size, 0, none⟩) K K R ho5.rd hRl (by omega) rfl rfl ?_); intro w6 hown6 hb6; rw [hRt] at hown6))
        go_ret2
        obtain ⟨t1, t2, t3, t4⟩ := HT.out
        rw [t1, t2, t3, t4, hLk]
        have hb46 := hb5.trans hb6
        exact ⟨_, _, rfl, hown6.rowLit hwf, X14.below hb46 (by omega), X24.below hb46 (by omega), (hb.trans (But.of hb4)).trans (But.of hb46), fun x hx => by cases hx; dsimp only; omega⟩
    · obtain rfl : j = K := by omega
      obtain ⟨t1, t2, t3, t4, t5⟩ := fd_rd j 0 d hE.out
      have hrow := by
        have h4 := ho
        rw [Nat.sub_self, List.replicate_zero, List.append_nil] at h4
        exact h4.rowLit (M09.okV_wf (M09.rdL_okV HBY.out j 0 d))
      have hEo := hE.out
      clear hE t1 t5 ho sok sd
      go_wp2
      go_ret2
      rw [t2, t3, t4, hEo, hLk, ← eS]
      exact ⟨_, _, rfl, hrow, X1, X2, hb, fun x hx => by cases hx; exact Nat.le_refl _⟩
end Go.Proofs.Ytmnhepcnbdbhoaa.Rs
