/- What the reference of layer 10 returns: Fed, Feed. -/
import Derived.Test.YtmnhepcnbdbhoaaRef10
import Derived.Test.YtmnhepcnbdbhoaaGR2
import Derived.Test.YtmnhepcnbdbhoaaGR7
import Derived.Test.YtmnhepcnbdbhoaaGR8
import Derived.Test.YtmnhepcnbdbhoaaResume3
namespace Go.Proofs.Ytmnhepcnbdbhoaa.R10
open Go.Proofs Go.RowKit Go.Proofs.Ytmnhepcnbdbhoaa.Kit Go.Proofs.Ytmnhepcnbdbhoaa.M01 Go.Proofs.Ytmnhepcnbdbhoaa.M02 Go.Proofs.Ytmnhepcnbdbhoaa.M06 Go.Proofs.Ytmnhepcnbdbhoaa.M07 Go.Proofs.Ytmnhepcnbdbhoaa.M08 Go.Proofs.Ytmnhepcnbdbhoaa.M10 Go.Proofs.Ytmnhepcnbdbhoaa.Bt Go.Proofs.Ytmnhepcnbdbhoaa.R02 Go.Proofs.Ytmnhepcnbdbhoaa.R08 Go.Proofs.Ytmnhepcnbdbhoaa.Rs
set_option linter.unusedVariables false
attribute [local irreducible] wpStill

theorem info10r_u32 : (Try.prog.info? 40).map (fun i => (i.zero, i.size, i.bytes)) = some (some (.int .u32 0), 1, 4) := by kernel_rfl
theorem up_step {bs : List Int} {n V : Int} {k : Nat} (hb : isByte bs) (hk : k < bs.length) (hn : 0 ≤ n) :
    V + val (bs.take k) * p2 n + (bs.getD k 0 % p2 8) * p2 (n + 8 * (k : Int)) = V + val (bs.take (k + 1)) * p2 n := by
  have h1 : bs.take (k + 1) = bs.take k ++ [bs.getD k 0] := by
    rw [List.take_add_one, List.getD_eq_getElem?_getD, List.getElem?_eq_getElem hk]; simp
  have h2 : (bs.take k).length = k := by rw [List.length_take]; omega
  have h3 : 0 ≤ bs.getD k 0 ∧ bs.getD k 0 < 256 := by
    rw [List.getD_eq_getElem?_getD, List.getElem?_eq_getElem hk]; exact hb _ (List.getElem_mem hk)
  rw [h1, val_app, h2, p2_add hn (by omega), p2_8, Int.emod_eq_of_lt h3.1 h3.2]
  rw [show val [bs.getD k 0] = bs.getD k 0 by simp [val], Int.add_mul, Int.mul_assoc, Int.mul_comm (p2 (8 * (k : Int)))]
  omega
theorem ownGe {k : IntKind} {w : World} {base : Nat} {e : TypeId} {a : Option Addr} {n cap : Nat} {xs : List Int} (h : OwnI k w base e (.slice a n cap) xs) : ∀ x, a = some x → base ≤ x.block := fun x hx => by
  subst hx
  rcases h.2 with ⟨h', _⟩ | ⟨g2, cp, cur, h', hb, _⟩
  · simp at h'
  · simp only [Value.slice.injEq, Option.some.injEq] at h'
    obtain ⟨rfl, _⟩ := h'
    exact hb
theorem RowIn.lo {k : IntKind} {w w' : World} {a : Option Addr} {len cap B : Nat} {xs : List Int} (h : RowIn k w a len cap xs) (hb : Below B w w') (hl : xs ≠ [] → ∀ x, a = some x → x.block < B) : RowIn k w' a len cap xs := by
  refine ⟨⟨?_, h.rd.2⟩, h.hl, h.hc, h.hm⟩
  rcases h.rd.1 with h1 | ⟨b, off, rfl, hc⟩
  · exact .inl h1
  · by_cases hx : xs = []
    · exact .inl hx
    · exact .inr ⟨b, off, rfl, fun j hj => by rw [World.cell?_of_block (hb.block b (hl hx _ rfl))]; exact hc j hj⟩
theorem own_ne_box {k : IntKind} {w : World} {base G : Nat} {e t : TypeId} {v : Value} {xs : List Int} {cs : Array Value} (h : OwnI k w base e v xs) (hb : w.heap[G]? = some (.cells cs t)) (hne : t ≠ e) : v.ownBlock ≠ some G := by
  rcases h.2 with ⟨h1, _⟩ | ⟨g, c, cur, h1, _⟩
  · rw [h1]; simp [Value.ownBlock]
  · rw [h1] at h
    have := h.apart hb hne
    rw [h1]; simp [Value.ownBlock]; omega

theorem fed_end {s : R4} {bs : List Int} {j : Nat} (hi : isR s) (hok : okR s = true) (hb : isByte bs) (h41 : bs.length ≤ 41000) (hj : j ≤ s.l.toNat) (h0 : M09.rdE (upL s.xs s.n bs) (upN s.n bs) j 0 s.d = 0)
    (hs : j = s.l.toNat ∨ (j < s.l.toNat ∧ drE (upL s.xs s.n bs) (upN s.n bs) (M09.rdP (upL s.xs s.n bs) (upN s.n bs) j 0 s.d) (M09.rdT (upL s.xs s.n bs) (upN s.n bs) j 0 s.d) = 24)) :
    ruE s bs = 0 ∧ ruL s bs = M09.rdL (upL s.xs s.n bs) (upN s.n bs) j 0 s.d ∧ ruP s bs = M09.rdP (upL s.xs s.n bs) (upN s.n bs) j 0 s.d ∧ ruT s bs = M09.rdT (upL s.xs s.n bs) (upN s.n bs) j 0 s.d ∧ ((ruK s bs : Nat) : Int) = s.l - (j : Int) := by
  have hl := (okR_iff.1 hok).1
  have hA := (ru_all hi hok hb h41).2.2.2.2.2.1
  have hlen := M09.rd_len (upL s.xs s.n bs) (upN s.n bs) j 0 s.d
  rcases hs with rfl | ⟨h1, h2⟩
  · obtain ⟨f1, f2, f3, f4, f5⟩ := fd_rd s.l.toNat 0 s.d h0
    exact ⟨f1, f2, f3, f4, by show ((fdK _ _ _ _ _ : Nat) : Int) = _; rw [f5]; omega⟩
  · obtain ⟨f1, f2, f3, f4⟩ := rd_stop j s.l.toNat 0 s.d h1 h0 (by rw [h2]; decide)
    have e2 : ruL s bs = _ := f2
    refine ⟨by show fdE _ _ _ _ _ = 0; rw [fd_err, f1, h2]; rfl, f2, f3, f4, ?_⟩
    rw [e2, hlen] at hA
    omega
theorem fed_err {s : R4} {bs : List Int} {j : Nat} {E : Int} (hj : j < s.l.toNat) (h0 : M09.rdE (upL s.xs s.n bs) (upN s.n bs) j 0 s.d = 0)
    (hE : drE (upL s.xs s.n bs) (upN s.n bs) (M09.rdP (upL s.xs s.n bs) (upN s.n bs) j 0 s.d) (M09.rdT (upL s.xs s.n bs) (upN s.n bs) j 0 s.d) = E) (h1 : E ≠ 0) (h2 : E ≠ 24) : rvE s bs = E := by
  obtain ⟨f1, -, -, -⟩ := rd_stop j s.l.toNat 0 s.d hj h0 (by rw [hE]; exact h1)
  rw [hE] at f1
  have e : ruE s bs = E := by show fdE _ _ _ _ _ = E; rw [fd_err, f1, if_neg h2]
  rw [rvE, if_pos (by rw [e]; exact h1), e]
theorem fed_res {s : R4} {bs : List Int} {j : Nat} {X L : List Int} {N P : Int} {T : D4} (hi : isR s) (hok : okR s = true) (hb : isByte bs) (h41 : bs.length ≤ 41000) (hX : upL s.xs s.n bs = X) (hN : upN s.n bs = N) (hq : ruE s bs = 0 ∧ ruL s bs = L ∧ ruP s bs = P ∧ ruT s bs = T ∧ ((ruK s bs : Nat) : Int) = s.l - (j : Int)) :
    (s.l - (j : Int) = 0 ∧ 8 ≤ N - P → rvE s bs = 38) ∧ (¬ (s.l - (j : Int) = 0 ∧ 8 ≤ N - P) → rvE s bs = 0) ∧ rvR s bs = ⟨s.l - (j : Int), T, bl (N - P) (val X / p2 P), N - P⟩ ∧ okB X N = true ∧ isByte X ∧ 0 ≤ P ∧ P ≤ N ∧ bl (N - P) (val X / p2 P % p2 (N - P)) = bl (N - P) (val X / p2 P) := by
  obtain ⟨q1, q2, q3, q4, q5⟩ := hq
  obtain ⟨k1, k2, k3, k4, k5⟩ := okR_iff.1 hok
  have hf := okR_few hok
  obtain ⟨u1, u2, u3, u4, u5, -, -⟩ := up_ok k3 hi.2.2.1 hb (by unfold upN; omega)
  obtain ⟨-, -, a3, a4, -⟩ := ru_all hi hok hb h41
  rw [q3] at a3 a4
  rw [hX, hN] at u1
  rw [hX] at u3
  rw [hN] at a4
  obtain ⟨t1, t2, -⟩ := up_cut u1 u3 a3 a4
  refine ⟨fun h => ?_, fun h => ?_, ?_, u1, u3, a3, a4, ?_⟩
  · rw [rvE, if_neg (by rw [q1]; simp), if_pos ⟨by omega, by rw [hN, q3]; exact h.2⟩]
  · rw [rvE, if_neg (by rw [q1]; simp), if_neg (fun g => h ⟨by omega, by have := g.2; rw [hN, q3] at this; exact this⟩)]
  · rw [rvR, q5, q4, hN, hX, q3]
  · unfold cuL at t2; rw [if_pos t1] at t2; exact t2

set_option maxRecDepth 4000 in
set_option maxHeartbeats 8000000 in
theorem fed_any (a : Option Addr) (len cap : Nat) (s : R4) (b : Option Addr) (blen bcap : Nat) (bs : List Int) (w : World) (hr : RowIn .u8 w a len cap s.xs) (hi : isR s) (hrb : RowIn .u8 w b blen bcap bs) (hok : okR s = true) (h41 : bs.length ≤ 41000) :
    Calls Try.prog 36 #[vR a len cap s, .slice b blen bcap] w fun e w' => ∃ a1 c1 a2 c2, e = .returned (.tuple #[vR a1 (reR s bs).xs.length c1 (reR s bs), .slice a2 (reV s bs).length c2, .int .i64 (reE s bs)]) ∧ RowIn .u8 w' a1 (reR s bs).xs.length c1 (reR s bs).xs ∧ RowIn .u32 w' a2 (reV s bs).length c2 (reV s bs) ∧ Below w.heap.size w w' ∧ Fresh w a1 ∧ Fresh w a2 := by
  obtain rfl := hr.hl
  obtain rfl := hrb.hl
  obtain ⟨i0, hii, hz0, hz1, hz2⟩ := info_parts info10r_u32
  obtain ⟨hl, hd, hbx, hn⟩ := id hi
  have hbb := byte_of hrb.rd
  obtain ⟨k1, k2, k3, k4, k5⟩ := okR_iff.1 hok
  have hf := okR_few hok
  have hx0 := ok_eq hbx k3
  have hT := fun w' hb => twin_any a s.xs.length cap s.xs s.n w' (hr.same (w' := w') hb) (by have := (okB_iff.1 k3).2.2.1; omega)
  have hup : upN s.n bs ≤ 330000 := by unfold upN; omega
  obtain ⟨u1, u2, u3, u4, u5, -, -⟩ := up_ok k3 hbx hbb hup
  have hlow := fun k => up_ok (b := bs.take k) k3 hbx (fun x hx => hbb x (List.mem_of_mem_take hx)) (by unfold upN; rw [List.length_take]; omega)
  have HU := hid (ru_all hi hok hbb h41)
  have hwx := wf_byte hbx
  have HOK := hid hok
  have HI := hid hi
  have eE : reE s bs = rvE s bs := by rw [reE, if_pos hok, if_neg (by omega)]
  have HR := hid (And.intro eE (And.intro (fun (h : rvE s bs = 0) => (show reR s bs = rvR s bs ∧ reV s bs = ruL s bs by rw [reR, reV, eE, if_pos h, if_pos h]; exact ⟨rfl, rfl⟩)) (fun (h : rvE s bs ≠ 0) => (show reR s bs = zR ∧ reV s bs = [] by rw [reR, reV, eE, if_neg h, if_neg h]; exact ⟨rfl, rfl⟩))))
  clear eE hok
  have hcc := hrb.hc
  have hmm := hrb.hm
  have hN0 : 0 ≤ s.n := hf.1
  unfold bv at hT
  unfold vR
  obtain ⟨l, ⟨da, db, ds, dt⟩, xs, n⟩ := s
  clear k4 k5 u2 u4 u5
  dsimp only at hr hl hd hn hbx hf hx0 hT hup u1 u3 hlow hwx hN0 k1 k2 k3 ⊢
  have HX0 := hid hx0
  clear hx0
  go_enter Try.func36, Try.ntmps36
  go_wp2_with (go_at_call 17; (with_reducible refine (hT _ (below2 _ _ _)).mono ?_); rintro e w1 ⟨v, rfl, hown, hb1⟩; obtain ⟨a', cap', rfl, hrow⟩ := hown.row hwx; have z1 := hb1.size; have hB1 := (below2 w _ _).trans (hb1.mono (by rw [size2]; omega)); have S1 := (Box7.of (blk2a w _ _)).below hb1 (by rw [size2]; omega); have Z1 := (Box7.of (blk2 w _ _)).below hb1 (by rw [size2]; omega))
  rw [size2] at z1
  rw [size2] at hown
  have GB := blk1 w1 (.cells #[.slice a' xs.length cap', .int .i64 n] 27)
  have o2 := hown.below (below1 w1 (.cells #[.slice a' xs.length cap', .int .i64 n] 27))
  have hB2 := hB1.trans ((below1 w1 (.cells #[.slice a' xs.length cap', .int .i64 n] 27)).mono hB1.size)
  have S2 := box7A (o := (.cells #[.slice a' xs.length cap', .int .i64 n] 27)) S1
  have Z2 := box7A (o := (.cells #[.slice a' xs.length cap', .int .i64 n] 27)) Z1
  have z2 : w1.heap.size < (w1.alloc (.cells #[.slice a' xs.length cap', .int .i64 n] 27)).heap.size := by rw [size1]; omega
  obtain ⟨G, eG⟩ : ∃ G, w1.heap.size = G := ⟨_, rfl⟩
  rw [eG] at GB z2
  simp only [eG] at z1 ⊢
  generalize w1.alloc (.cells #[.slice a' xs.length cap', .int .i64 n] 27) = w2 at *
  clear hb1 hB1 S1 Z1 hown hrow hT eG
  go_loopw [8] (fun t wr => ∃ k : Nat, k ≤ bs.length ∧ t = .int .i64 k ∧ (∃ a' l' c', wr.heap[G]? = some (.cells #[.slice a' l' c', .int .i64 (n + 8 * (k : Int))] 27) ∧ OwnI .u8 wr (w.heap.size + 2) 5 (.slice a' l' c') (bl (n + 8 * (k : Int)) (val xs + val (bs.take k) * p2 n))) ∧ Box7 wr w.heap.size (.int .i64 l) (.int .i64 da) (.int .i64 db) (.int .u64 ds) (.int .u64 dt) (.slice a xs.length cap) (.int .i64 n) ∧ Box7 wr (w.heap.size + 1) (.int .i64 0) (.int .i64 0) (.int .i64 0) (.int .u64 0) (.int .u64 0) (.slice none 0 0) (.int .i64 0) ∧ Below w.heap.size w wr ∧ G < wr.heap.size) (fun t _ => bs.length - (intOf t).toNat)
  case atStart =>
    refine ⟨0, by omega, by go_num, ⟨a', xs.length, cap', by rw [show n + 8 * ((0 : Nat) : Int) = n by omega]; exact GB, ?_⟩, S2, Z2, hB2, z2⟩
    rw [show n + 8 * ((0 : Nat) : Int) = n by omega, List.take_zero, show val [] = 0 by simp [val], Int.zero_mul, Int.add_zero, ← HX0.out]
    exact o2
  case round =>
    obtain ⟨k, hk, rfl, ⟨a', l', c', hG, ho⟩, Xs, Xz, hb, hz⟩ := hrel
    clear GB o2 hB2 S2 Z2 z2
    by_cases hlt : k < bs.length
    · obtain ⟨bb, off, rfl, cc⟩ := (hrb.same hb).rd.cells (by intro h; rw [h] at hlt; simp at hlt)
      have d1 := cc k hlt
      have hx := hbb (bs.getD k 0) (by rw [List.getD_eq_getElem?_getD, List.getElem?_eq_getElem hlt]; exact List.getElem_mem hlt)
      have hst := up_step (V := val xs) (n := n) hbb hlt hN0
      obtain ⟨-, -, -, -, -, q1, q2⟩ := hlow k
      have ht : (bs.take k).length = k := by rw [List.length_take]; omega
      unfold upN at q2
      rw [ht] at q2
      have hNm := fun w' (ho' : OwnI .u8 w' (w.heap.size + 2) 5 (.slice a' l' c') (bl (n + 8 * (k : Int)) (val xs + val (bs.take k) * p2 n))) hbs => number_any a' l' c' (w.heap.size + 2) (n + 8 * (k : Int)) (val xs + val (bs.take k) * p2 n) (bs.getD k 0) 8 w' ho' hbs (by omega) (by omega) (by omega) (by omega) q1 q2 hx.1 (by omega)
      rw [hst, show n + 8 * (k : Int) + 8 = n + 8 * ((k + 1 : Nat) : Int) by omega] at hNm
      have hNm := hNm wr.drew (ho.below (Below.refl _ _).drew) (by show w.heap.size + 2 ≤ wr.heap.size; omega)
      have ho := hid ho
      clear hst q1 q2 cc hlow
      generalize val xs + val (bs.take k) * p2 n = V1 at hNm ho
      generalize hV2 : val xs + val (bs.take (k + 1)) * p2 n = V2 at hNm
      have HV2 := hid hV2
      clear hV2
      generalize hN2 : n + 8 * ((k + 1 : Nat) : Int) = N2 at hNm
      have HN2 := hid hN2
      clear hN2
      generalize bs.getD k 0 = x at d1 hx hNm
      unfold bv at hNm
      obtain ⟨g0, g1, gf0, gf1⟩ := Box2.of hG
      have lb : bb < wr.heap.size := World.block_lt_of_cell? wr _ d1
      have ew : IntKind.u64.wrap x = x := by rw [IntKind.wrap_u64]; omega
      go_wp2
      refine region_tail 6 (by kernel_rfl) (by kernel_rfl) (fun K hK => ?_)
      simp only [List.take_succ_cons, List.take_zero, List.drop_succ_cons, List.drop_zero] at hK ⊢
      iterate 6 still_step
      refine wpStill_nil ?_
      refine hK _ ?_
      clear hK K
      go_wp2_with ((with_reducible refine hNm.mono ?_); rintro e w5 ⟨a2, l2, c2, rfl, ho5, hb5, hk5⟩; have hG5 := hk5 G _ _ hG (by decide); have z5 : wr.heap.size ≤ w5.heap.size := hb5.size; obtain ⟨y0, y1, y2, y3⟩ := Box2.of hG5; have lG5 : G < w5.heap.size := (by omega))
      go_roundw
      case rel =>
        have q1 := heap_setCell_same w5 G 0 _ _ (.slice a2 l2 c2) hG5
        have q2 := heap_setCell_same _ G 1 _ _ (.int .i64 N2) q1
        have hne := own_ne_box ho5 hG5 (by decide)
        have hB5 : Below w.heap.size w w5 := (hb.drew).trans (hb5.mono (by omega))
        refine ⟨k + 1, by omega, by go_num, ⟨a2, l2, c2, by rw [HN2.out]; exact q2, by rw [HN2.out, HV2.out]; exact (ho5.other hne).other hne⟩, ((Xs.drew.below hb5 (by omega)).set (by omega)).set (by omega), ((Xz.drew.below hb5 (by omega)).set (by omega)).set (by omega), bS (bS hB5 (by omega)) (by omega), by simp only [World.size_setCell]; omega⟩
      case measure => simp [intOf]; omega
    · obtain rfl : k = bs.length := by omega
      rw [List.take_length] at ho
      have ho : OwnI .u8 wr (w.heap.size + 2) 5 (.slice a' l' c') (upL xs n bs) := ho
      have hG : wr.heap[G]? = some (.cells #[.slice a' l' c', .int .i64 (upN n bs)] 27) := hG
      obtain ⟨aX, cX, eX, hrX⟩ := ho.row (wf_byte u3)
      cases eX
      have hXB := ownGe ho
      have HXL := hid (fun (h : upL xs n bs ≠ []) x hx => Co.row_lt hrX h x hx)
      have Xg := Box2.of hG
      obtain ⟨w3, e3⟩ : ∃ x, x = wr := ⟨_, rfl⟩
      subst e3
      have zG : G < w3.heap.size := hz
      have HRES := hid (fun (j : Nat) (L : List Int) (P : Int) (T : D4) (hq : ruE ⟨l, ⟨da, db, ds, dt⟩, xs, n⟩ bs = 0 ∧ ruL ⟨l, ⟨da, db, ds, dt⟩, xs, n⟩ bs = L ∧ ruP ⟨l, ⟨da, db, ds, dt⟩, xs, n⟩ bs = P ∧ ruT ⟨l, ⟨da, db, ds, dt⟩, xs, n⟩ bs = T ∧ ((ruK ⟨l, ⟨da, db, ds, dt⟩, xs, n⟩ bs : Nat) : Int) = l - (j : Int)) => fed_res (j := j) (X := upL xs n bs) (N := upN n bs) (L := L) (P := P) (T := T) HI.out HOK.out hbb h41 rfl rfl hq)
      have HEND := hid (fun (j : Nat) (hj : j ≤ l.toNat) h0 hs => fed_end (j := j) (s := ⟨l, ⟨da, db, ds, dt⟩, xs, n⟩) HI.out HOK.out hbb h41 hj h0 hs)
      have HERR := hid (fun (j : Nat) (E : Int) (hj : j < l.toNat) h0 hE h1 h2 => fed_err (j := j) (E := E) (s := ⟨l, ⟨da, db, ds, dt⟩, xs, n⟩) (bs := bs) hj h0 hE h1 h2)
      dsimp only at HRES HEND HERR
      have hN3 : upN n bs ≤ 330000 := hup
      have hNn := (okB_iff.1 u1).1
      have HBX := hid (And.intro u1 u3)
      clear hlow u1 u3 ho hG hup
      generalize upL xs n bs = X at *
      generalize upN n bs = N at *
      go_wp2
      go_loopw [9, 10] (fun v t wr => ∃ j : Nat, j ≤ l.toNat ∧ t = .int .i64 (M09.rdP X N j 0 ⟨da, db, ds, dt⟩) ∧ Hid (M09.rdE X N j 0 ⟨da, db, ds, dt⟩ = 0) ∧ OwnI .u32 wr w3.heap.size 40 v (M09.rdL X N j 0 ⟨da, db, ds, dt⟩) ∧ (∃ S, S = M09.rdT X N j 0 ⟨da, db, ds, dt⟩ ∧ Box7 wr w.heap.size (.int .i64 (l - (j : Int))) (.int .i64 S.a) (.int .i64 S.b) (.int .u64 S.s) (.int .u64 S.t) (.slice a xs.length cap) (.int .i64 n)) ∧ Box7 wr (w.heap.size + 1) (.int .i64 0) (.int .i64 0) (.int .i64 0) (.int .u64 0) (.int .u64 0) (.slice none 0 0) (.int .i64 0) ∧ Box2 wr G (.slice a' X.length c') (.int .i64 N) ∧ RowIn .u8 wr a' X.length c' X ∧ Below w.heap.size w wr ∧ w3.heap.size ≤ wr.heap.size) (fun _ t _ => (N + 1 - intOf t).toNat)
      case atStart => exact ⟨0, by omega, by go_num, hid rfl, OwnI.nil, ⟨⟨da, db, ds, dt⟩, rfl, by rw [show l - ((0 : Nat) : Int) = l by omega]; exact Xs⟩, Xz, Xg, hrX, hb, Nat.le_refl _⟩
      case round =>
        obtain ⟨j, hj, rfl, hE, ho, ⟨S, eS, S1⟩, Z1, G1, hrX1, hb1, hzw⟩ := hrel
        clear Xs Xz Xg hrX hb
        obtain ⟨sok, sd, p0, pn⟩ := M09.rd_state HBX.out.2 j 0 ⟨da, db, ds, dt⟩ k2 hd (by omega) hNn hE.out
        rw [← eS] at sok sd
        have lB : w.heap.size < wr.heap.size := by omega
        have lB1 : w.heap.size + 1 < wr.heap.size := by omega
        have lG : G < wr.heap.size := by omega
        by_cases hlt : j < l.toNat
        · have f0 : (0 < l - (j : Int)) = True := eq_true (by omega)
          have ew : IntKind.i64.wrap (l - (j : Int) - 1) = l - ((j + 1 : Nat) : Int) := by
            rw [show l - ((j + 1 : Nat) : Int) = l - (j : Int) - 1 by omega]
            exact Du.wrap_i64_id (by omega) (by omega)
          have hvU := M09.drN_isU (n := N) (p := M09.rdP X N j 0 ⟨da, db, ds, dt⟩) (d := S) HBX.out.2
          have hGt := fun w' (r : RowIn .u8 w' a' X.length c' X) => got8_any a' X.length c' X N (M09.rdP X N j 0 ⟨da, db, ds, dt⟩) S w' r HBX.out.1 p0 (by omega) sok
          have hLt := fun w' => learnt_any S (drN X N (M09.rdP X N j 0 ⟨da, db, ds, dt⟩) S) w' sd sok hvU
          have hlk := M09.rd_len X N j 0 ⟨da, db, ds, dt⟩
          have hXlt : X ≠ [] → ∀ x, a' = some x → x.block < w3.heap.size := HXL.out
          obtain ⟨sa, sb, ss, st⟩ := S
          dsimp only at S1
          by_cases hE0 : drE X N (M09.rdP X N j 0 ⟨da, db, ds, dt⟩) ⟨sa, sb, ss, st⟩ = 0
          · have HS := hid (And.intro (M09.rdE_snoc X N j 0 ⟨da, db, ds, dt⟩ hE.out) (And.intro (M09.rdP_snoc X N j 0 ⟨da, db, ds, dt⟩) (And.intro (M09.rdL_snoc X N j 0 ⟨da, db, ds, dt⟩) (M09.rdT_snoc X N j 0 ⟨da, db, ds, dt⟩))))
            rw [← eS] at HS
            obtain ⟨-, -, -, t4, t5, -⟩ := dr_step HBX.out.2 sd hE0
            have eL := (M08.dr_once HBX.out.2 hE0).2.2.2.2.2.2.2
            rw [hE0] at hGt HS
            generalize learnD ⟨sa, sb, ss, st⟩ (drN X N (M09.rdP X N j 0 ⟨da, db, ds, dt⟩) ⟨sa, sb, ss, st⟩) = T at hLt eL
            rw [eL] at HS
            generalize drN X N (M09.rdP X N j 0 ⟨da, db, ds, dt⟩) ⟨sa, sb, ss, st⟩ = V at hGt hLt HS hvU
            generalize drX X N (M09.rdP X N j 0 ⟨da, db, ds, dt⟩) ⟨sa, sb, ss, st⟩ = Q at hGt HS t4 t5
            generalize M09.rdP X N j 0 ⟨da, db, ds, dt⟩ = P at hGt HS t5 p0 pn ⊢
            generalize M09.rdL X N j 0 ⟨da, db, ds, dt⟩ = L at HS ho hlk
            have HO := hid ho
            clear eS eL hE0 ho HRES HEND HERR HR sok sd
            obtain ⟨ta, tb, ts, tt⟩ := T
            unfold bv Du.dv at hGt
            unfold Du.dv at hLt
            dsimp only at hGt hLt
            obtain ⟨s0, s1, s2, s3, s4, s5, s6, sf0, sf1, sf2, sf3, sf4, sf5, sf6⟩ := id S1
            obtain ⟨g0, g1, gf0, gf1⟩ := id G1
            go_wp2_with (first  | (go_at_call 39; (with_reducible refine (hGt wr hrX1).mono ?_); rintro e w4 ⟨rfl, hb4⟩; have z4 : wr.heap.size ≤ w4.heap.size := hb4.size; have S4 := S1.below hb4 lB; have Z4 := Z1.below hb4 lB1; have G4 := G1.below hb4 lG; have X4 := hrX1.same hb4; have ho4 := HO.out.below hb4; clear s0 s1 s2 s3 s4 s5 s6 sf0 sf1 sf2 sf3 sf4 sf5 sf6 g0 g1 gf0 gf1; obtain ⟨s0, s1, s2, s3, s4, s5, s6, sf0, sf1, sf2, sf3, sf4, sf5, sf6⟩ := id S4)  | (at_builtin; refine app1 rfl _ _ 34 rfl w3.heap.size 40 i0 (.int .u32 0) 4 Try.underlying34 hii hz0 hz1 hz2 rfl .u32 _ _ ho4 _ rfl rfl (by omega) (by omega) (by omega) ?_; intro v5 w5 ho5 hgr hb5; have z5 : w4.heap.size ≤ w5.heap.size := hb5.size; have S5 := S4.below hb5 (show w.heap.size < w3.heap.size by omega); have Z5 := Z4.below hb5 (show w.heap.size + 1 < w3.heap.size by omega); have G5 := G4.below hb5 (show G < w3.heap.size by omega); have X5 := RowIn.lo X4 hb5 hXlt; clear s0 s1 s2 s3 s4 s5 s6 sf0 sf1 sf2 sf3 sf4 sf5 sf6; obtain ⟨s0, s1, s2, s3, s4, s5, s6, sf0, sf1, sf2, sf3, sf4, sf5, sf6⟩ := id S5)  | (go_at_call 52; (with_reducible refine (hLt _).mono ?_); rintro e w6 ⟨rfl, hb6⟩; have z6 : w5.heap.size ≤ w6.heap.size := hb6.size; have S6 := S5.below hb6 (show w.heap.size < w5.heap.size by omega); have Z6 := Z5.below hb6 (show w.heap.size + 1 < w5.heap.size by omega); have G6 := G5.below hb6 (show G < w5.heap.size by omega); have X6 := X5.same hb6; have ho6 := ho5.below hb6; have l6 : w.heap.size < w6.heap.size := (by omega); clear s0 s1 s2 s3 s4 s5 s6 sf0 sf1 sf2 sf3 sf4 sf5 sf6; obtain ⟨s0, s1, s2, s3, s4, s5, s6, sf0, sf1, sf2, sf3, sf4, sf5, sf6⟩ := id S6))
            go_roundw
            case rel =>
              obtain ⟨u1, u2, u3, u4⟩ := HS.out
              have hno : v5.ownBlock ≠ some w.heap.size := fun q => by have := World.ownsRow.lt ho6 w.heap.size q; omega
              have nX : ∀ x, a' = some x → x.block ≠ w.heap.size := fun x hx => by have := hXB x hx; omega
              have hb6' : Below w.heap.size w w6 := (hb1.trans (hb4.mono (by omega))).trans ((hb5.mono (by omega)).trans (hb6.mono (by omega)))
              rw [← u3] at ho6
              refine ⟨j + 1, by omega, by rw [u2], hid u1, ((((ho6.other hno).other hno).other hno).other hno).other hno, ⟨⟨ta, tb, ts, tt⟩, u4.symm, ((((S6.put1 _).put2 _).put3 _).put4 _).put0 _⟩, ((((Z6.set (by omega)).set (by omega)).set (by omega)).set (by omega)).set (by omega), ((((G6.set (by omega)).set (by omega)).set (by omega)).set (by omega)).set (by omega), rowS (rowS (rowS (rowS (rowS X6 nX) nX) nX) nX) nX, bS (bS (bS (bS (bS hb6' (Nat.le_refl _)) (Nat.le_refl _)) (Nat.le_refl _)) (Nat.le_refl _)) (Nat.le_refl _), by simp only [World.size_setCell]; omega⟩
            case measure => simp [intOf]; omega
          by_cases hE24 : drE X N (M09.rdP X N j 0 ⟨da, db, ds, dt⟩) ⟨sa, sb, ss, st⟩ = 24
          · have hq := HEND.out j (by omega) hE.out (.inr ⟨hlt, by rw [← eS]; exact hE24⟩)
            obtain ⟨c1, c2, c3, c4, c5, c6, c7, c8⟩ := HRES.out j _ _ _ hq
            have hBt := fun w' (r : RowIn .u8 w' a' X.length c' X) => between_any a' X.length c' X N (M09.rdP X N j 0 ⟨da, db, ds, dt⟩) N w' r c4 c6 c7 (Int.le_refl _)
            rw [c8] at hBt
            unfold bv at hBt
            obtain ⟨av, cv, rfl, hrow⟩ := ho.row (M09.okV_wf (M09.rdL_okV HBX.out.2 j 0 ⟨da, db, ds, dt⟩))
            have fL := ownGe ho
            have nL : ∀ x, av = some x → x.block ≠ w.heap.size := fun x hx => by have := fL x hx; omega
            have nL1 : ∀ x, av = some x → x.block ≠ w.heap.size + 1 := fun x hx => by have := fL x hx; omega
            have HRb := hid (wf_byte (bl_byte (N - M09.rdP X N j 0 ⟨da, db, ds, dt⟩) (val X / p2 (M09.rdP X N j 0 ⟨da, db, ds, dt⟩))))
            have hML : M09.rdT X N j 0 ⟨da, db, ds, dt⟩ = ⟨sa, sb, ss, st⟩ := eS.symm
            rw [hML] at c3
            obtain ⟨hR1, hR2, hR3⟩ := HR.out
            have hv := c2 (fun g => by have := g.1; omega)
            obtain ⟨hR4, hR5⟩ := hR2 hv
            rw [c3] at hR4
            rw [hq.2.1] at hR5
            have HQ := hid (And.intro (hR1.trans hv) (And.intro hR4 hR5))
            have f01 : (l - (j : Int) = 0) = False := eq_false (by omega)
            have f02 : (l - (j : Int) == 0) = false := beq_eq_false_iff_ne.2 (by omega)
            rw [hE24] at hGt
            clear hv hE0 hE24 hlk hLt ew
            generalize drN X N (M09.rdP X N j 0 ⟨da, db, ds, dt⟩) ⟨sa, sb, ss, st⟩ = V at hGt hvU
            generalize drX X N (M09.rdP X N j 0 ⟨da, db, ds, dt⟩) ⟨sa, sb, ss, st⟩ = Q at hGt
            clear HRES HEND HERR c1 c2 c4 c5 c6 c7 c8 hR1 hR2 hR3 hML eS hq ho
            generalize M09.rdL X N j 0 ⟨da, db, ds, dt⟩ = L at *
            generalize M09.rdP X N j 0 ⟨da, db, ds, dt⟩ = P at *
            generalize bl (N - P) (val X / p2 P) = R at *
            generalize N - P = M at *
            generalize hJJ : l - (j : Int) = J at *
            clear hJJ hlt hj
            unfold bv Du.dv at hGt
            dsimp only at hGt
            obtain ⟨s0, s1, s2, s3, s4, s5, s6, sf0, sf1, sf2, sf3, sf4, sf5, sf6⟩ := id S1
            obtain ⟨g0, g1, gf0, gf1⟩ := id G1
            go_wp2_with (first  | (go_at_call 39; (with_reducible refine (hGt wr hrX1).mono ?_); rintro e w4 ⟨rfl, hb4⟩; have z4 : wr.heap.size ≤ w4.heap.size := hb4.size; have S4 := S1.below hb4 lB; have Z4 := Z1.below hb4 lB1; have G4 := G1.below hb4 lG; have X4 := hrX1.same hb4; have row4 := hrow.same hb4; have hB4 := hb1.trans (hb4.mono (by omega)); have lyB : w.heap.size < w4.heap.size := (by omega); have lyB1 : w.heap.size + 1 < w4.heap.size := (by omega); clear s0 s1 s2 s3 s4 s5 s6 sf0 sf1 sf2 sf3 sf4 sf5 sf6 g0 g1 gf0 gf1; obtain ⟨s0, s1, s2, s3, s4, s5, s6, sf0, sf1, sf2, sf3, sf4, sf5, sf6⟩ := id S4; obtain ⟨z0, z1, z2, z3, z4, z5, z6, zf0, zf1, zf2, zf3, zf4, zf5, zf6⟩ := id Z4; obtain ⟨g0, g1, gf0, gf1⟩ := id G4)  | (go_at_call 53; (with_reducible refine (hBt _ X4).mono ?_); rintro e w8 ⟨a5, l5, q5, rfl, ho8, hb8⟩; have z8 := hb8.size; obtain ⟨a6, q6, e6, r6⟩ := ho8.row HRb.out; have f8 := ownGe ho8; cases e6; have v8 := S4.below hb8 lyB; have u8 := Z4.below hb8 lyB1; have S8 := (v8.put5 (.slice a5 R.length q5)).put6 (.int .i64 M); have Z8 := (u8.set (g' := w.heap.size) (i := 5) (x := .slice a5 R.length q5) (by omega)).set (g' := w.heap.size) (i := 6) (x := .int .i64 M) (by omega); have n6 : ∀ x, a5 = some x → x.block ≠ w.heap.size := (fun x hx => by have := f8 x hx; omega); have n61 : ∀ x, a5 = some x → x.block ≠ w.heap.size + 1 := (fun x hx => by have := f8 x hx; omega); have R8 := rowS (g := w.heap.size) (i := 6) (u := .int .i64 M) (rowS (g := w.heap.size) (i := 5) (u := .slice a5 R.length q5) r6 n6) n6; have L8 := rowS (g := w.heap.size) (i := 6) (u := .int .i64 M) (rowS (g := w.heap.size) (i := 5) (u := .slice a5 R.length q5) (row4.same hb8) nL) nL; have hB8 := bS (g := w.heap.size) (i := 6) (v := .int .i64 M) (bS (g := w.heap.size) (i := 5) (v := .slice a5 R.length q5) (hB4.trans (hb8.mono (by omega))) (Nat.le_refl _)) (Nat.le_refl _); have l8 : w.heap.size < w8.heap.size := (by omega); have l81 : w.heap.size + 1 < w8.heap.size := (by omega); clear s0 s1 s2 s3 s4 s5 s6 sf0 sf1 sf2 sf3 sf4 sf5 sf6 z0 z1 z2 z3 z4 z5 z6 zf0 zf1 zf2 zf3 zf4 zf5 zf6 g0 g1 gf0 gf1; obtain ⟨s0, s1, s2, s3, s4, s5, s6, sf0, sf1, sf2, sf3, sf4, sf5, sf6⟩ := id v8; obtain ⟨z0, z1, z2, z3, z4, z5, z6, zf0, zf1, zf2, zf3, zf4, zf5, zf6⟩ := id u8))
            refine bodyPost_ret_by (v := .tuple #[.agg #[.int .i64 J, .int .i64 sa, .int .i64 sb, .int .u64 ss, .int .u64 st, .slice a5 R.length q5, .int .i64 M], .slice av L.length cv, .int .i64 0]) (by rw [results_ctt rfl]; go_simp) rfl ?_
            obtain ⟨q1, q2, q3⟩ := HQ.out
            rw [q1, q2, q3]
            exact ⟨a5, q5, av, cv, rfl, Rs.row7 R8 n61 _ _ _ _ _ _ _, Rs.row7 L8 nL1 _ _ _ _ _ _ _, Below.set7 hB8 (by omega) _ _ _ _ _ _ _, fun x hx => by have := f8 x hx; omega, fun x hx => by have := fL x hx; omega⟩
          · have hv := HERR.out j _ hlt hE.out (by rw [← eS]) hE0 hE24
            obtain ⟨hR1, -, hR3⟩ := HR.out
            have HQ := hid (And.intro (hR1.trans hv) (hR3 (by rw [hv]; exact hE0)))
            clear HRES HEND HERR hR1 hR3 hv hlk hLt ew eS sok sd
            generalize drN X N (M09.rdP X N j 0 ⟨da, db, ds, dt⟩) ⟨sa, sb, ss, st⟩ = V at hGt hvU
            generalize drX X N (M09.rdP X N j 0 ⟨da, db, ds, dt⟩) ⟨sa, sb, ss, st⟩ = Q at hGt
            generalize drE X N (M09.rdP X N j 0 ⟨da, db, ds, dt⟩) ⟨sa, sb, ss, st⟩ = E at *
            generalize M09.rdP X N j 0 ⟨da, db, ds, dt⟩ = P at hGt p0 pn ⊢
            have t5 : (E = 0) = False := eq_false hE0
            have t6 : (E != 0) = true := bne_iff_ne.2 hE0
            have t7 : (E = 24) = False := eq_false hE24
            have t8 : (E == 24) = false := beq_eq_false_iff_ne.2 hE24
            unfold bv Du.dv at hGt
            dsimp only at hGt
            obtain ⟨s0, s1, s2, s3, s4, s5, s6, sf0, sf1, sf2, sf3, sf4, sf5, sf6⟩ := id S1
            obtain ⟨g0, g1, gf0, gf1⟩ := id G1
            go_wp2_with (go_at_call 39; (with_reducible refine (hGt wr hrX1).mono ?_); rintro e w4 ⟨rfl, hb4⟩; have z4 : wr.heap.size ≤ w4.heap.size := hb4.size; have Z4 := Z1.below hb4 lB1; have hB4 := hb1.trans (hb4.mono (by omega)); have lyB1 : w.heap.size + 1 < w4.heap.size := (by omega); clear s0 s1 s2 s3 s4 s5 s6 sf0 sf1 sf2 sf3 sf4 sf5 sf6 g0 g1 gf0 gf1; obtain ⟨z0, z1, z2, z3, z4, z5, z6, zf0, zf1, zf2, zf3, zf4, zf5, zf6⟩ := id Z4)
            refine bodyPost_ret_by (v := .tuple #[.agg #[.int .i64 0, .int .i64 0, .int .i64 0, .int .u64 0, .int .u64 0, .slice none 0 0, .int .i64 0], .slice none 0 0, .int .i64 E]) (by rw [results_ctt rfl]; go_simp) rfl ?_
            obtain ⟨q1, q2, q3⟩ := HQ.out
            rw [q1, q2, q3]
            exact ⟨none, 0, none, 0, rfl, RowIn.nil, RowIn.nil, Below.set7 hB4 (by omega) _ _ _ _ _ _ _, Fresh.none, Fresh.none⟩
        · by_cases h8 : 8 ≤ N - M09.rdP X N j 0 ⟨da, db, ds, dt⟩
          · have hj0 : l - (j : Int) = 0 := by omega
            have hq := HEND.out j (by omega) hE.out (.inl (by omega))
            obtain ⟨c1, c2, c3, c4, c5, c6, c7, c8⟩ := HRES.out j _ _ _ hq
            have hBt := fun w' (r : RowIn .u8 w' a' X.length c' X) => between_any a' X.length c' X N (M09.rdP X N j 0 ⟨da, db, ds, dt⟩) N w' r c4 c6 c7 (Int.le_refl _)
            rw [c8] at hBt
            unfold bv at hBt
            obtain ⟨av, cv, rfl, hrow⟩ := ho.row (M09.okV_wf (M09.rdL_okV HBX.out.2 j 0 ⟨da, db, ds, dt⟩))
            have fL := ownGe ho
            have nL : ∀ x, av = some x → x.block ≠ w.heap.size := fun x hx => by have := fL x hx; omega
            have nL1 : ∀ x, av = some x → x.block ≠ w.heap.size + 1 := fun x hx => by have := fL x hx; omega
            have HRb := hid (wf_byte (bl_byte (N - M09.rdP X N j 0 ⟨da, db, ds, dt⟩) (val X / p2 (M09.rdP X N j 0 ⟨da, db, ds, dt⟩))))
            have hML : M09.rdT X N j 0 ⟨da, db, ds, dt⟩ = S := eS.symm
            rw [hML] at c3
            obtain ⟨hR1, hR2, hR3⟩ := HR.out
            have hv := c1 ⟨hj0, h8⟩
            have HQ := hid (And.intro (hR1.trans hv) (hR3 (by rw [hv]; decide)))
            have f8' : (8 ≤ N - M09.rdP X N j 0 ⟨da, db, ds, dt⟩) = True := eq_true h8
            have f0 : (0 < l - (j : Int)) = False := eq_false (by omega)
            have f01 : (l - (j : Int) = 0) = True := eq_true hj0
            have f02 : (l - (j : Int) == 0) = true := beq_iff_eq.2 hj0
            clear hv h8
            clear c1 c2 c4 c5 c6 c7 c8 hR1 hR2 hR3 hML eS hq ho
            generalize M09.rdL X N j 0 ⟨da, db, ds, dt⟩ = L at *
            generalize M09.rdP X N j 0 ⟨da, db, ds, dt⟩ = P at *
            generalize bl (N - P) (val X / p2 P) = R at *
            generalize N - P = M at *
            generalize hJJ : l - (j : Int) = J at *
            clear hJJ hlt hj hj0
            have lyB := lB
            have lyB1 := lB1
            obtain ⟨sa, sb, ss, st⟩ := S
            dsimp only at S1
            obtain ⟨s0, s1, s2, s3, s4, s5, s6, sf0, sf1, sf2, sf3, sf4, sf5, sf6⟩ := id S1
            obtain ⟨z0, z1, z2, z3, z4, z5, z6, zf0, zf1, zf2, zf3, zf4, zf5, zf6⟩ := id Z1
            obtain ⟨g0, g1, gf0, gf1⟩ := id G1
            go_wp2_with ((go_at_call 53; (with_reducible refine (hBt _ hrX1).mono ?_); rintro e w8 ⟨a5, l5, q5, rfl, ho8, hb8⟩; have z8 := hb8.size; obtain ⟨a6, q6, e6, r6⟩ := ho8.row HRb.out; have f8 := ownGe ho8; cases e6; have v8 := S1.below hb8 lyB; have u8 := Z1.below hb8 lyB1; have S8 := (v8.put5 (.slice a5 R.length q5)).put6 (.int .i64 M); have Z8 := (u8.set (g' := w.heap.size) (i := 5) (x := .slice a5 R.length q5) (by omega)).set (g' := w.heap.size) (i := 6) (x := .int .i64 M) (by omega); have n6 : ∀ x, a5 = some x → x.block ≠ w.heap.size := (fun x hx => by have := f8 x hx; omega); have n61 : ∀ x, a5 = some x → x.block ≠ w.heap.size + 1 := (fun x hx => by have := f8 x hx; omega); have R8 := rowS (g := w.heap.size) (i := 6) (u := .int .i64 M) (rowS (g := w.heap.size) (i := 5) (u := .slice a5 R.length q5) r6 n6) n6; have L8 := rowS (g := w.heap.size) (i := 6) (u := .int .i64 M) (rowS (g := w.heap.size) (i := 5) (u := .slice a5 R.length q5) (hrow.same hb8) nL) nL; have hB8 := bS (g := w.heap.size) (i := 6) (v := .int .i64 M) (bS (g := w.heap.size) (i := 5) (v := .slice a5 R.length q5) (hb1.trans (hb8.mono (by omega))) (Nat.le_refl _)) (Nat.le_refl _); have l8 : w.heap.size < w8.heap.size := (by omega); have l81 : w.heap.size + 1 < w8.heap.size := (by omega); clear s0 s1 s2 s3 s4 s5 s6 sf0 sf1 sf2 sf3 sf4 sf5 sf6 z0 z1 z2 z3 z4 z5 z6 zf0 zf1 zf2 zf3 zf4 zf5 zf6 g0 g1 gf0 gf1; obtain ⟨s0, s1, s2, s3, s4, s5, s6, sf0, sf1, sf2, sf3, sf4, sf5, sf6⟩ := id v8; obtain ⟨z0, z1, z2, z3, z4, z5, z6, zf0, zf1, zf2, zf3, zf4, zf5, zf6⟩ := id u8))
            refine bodyPost_ret_by (v := .tuple #[.agg #[.int .i64 0, .int .i64 0, .int .i64 0, .int .u64 0, .int .u64 0, .slice none 0 0, .int .i64 0], .slice none 0 0, .int .i64 38]) (by rw [results_ctt rfl]; go_simp) rfl ?_
            obtain ⟨q1, q2, q3⟩ := HQ.out
            rw [q1, q2, q3]
            exact ⟨none, 0, none, 0, rfl, RowIn.nil, RowIn.nil, Below.set7 hB8 (by omega) _ _ _ _ _ _ _, Fresh.none, Fresh.none⟩
          · have hj0 : l - (j : Int) = 0 := by omega
            have hq := HEND.out j (by omega) hE.out (.inl (by omega))
            obtain ⟨c1, c2, c3, c4, c5, c6, c7, c8⟩ := HRES.out j _ _ _ hq
            have hBt := fun w' (r : RowIn .u8 w' a' X.length c' X) => between_any a' X.length c' X N (M09.rdP X N j 0 ⟨da, db, ds, dt⟩) N w' r c4 c6 c7 (Int.le_refl _)
            rw [c8] at hBt
            unfold bv at hBt
            obtain ⟨av, cv, rfl, hrow⟩ := ho.row (M09.okV_wf (M09.rdL_okV HBX.out.2 j 0 ⟨da, db, ds, dt⟩))
            have fL := ownGe ho
            have nL : ∀ x, av = some x → x.block ≠ w.heap.size := fun x hx => by have := fL x hx; omega
            have nL1 : ∀ x, av = some x → x.block ≠ w.heap.size + 1 := fun x hx => by have := fL x hx; omega
            have HRb := hid (wf_byte (bl_byte (N - M09.rdP X N j 0 ⟨da, db, ds, dt⟩) (val X / p2 (M09.rdP X N j 0 ⟨da, db, ds, dt⟩))))
            have hML : M09.rdT X N j 0 ⟨da, db, ds, dt⟩ = S := eS.symm
            rw [hML] at c3
            obtain ⟨hR1, hR2, hR3⟩ := HR.out
            have hv := c2 (fun g => h8 g.2)
            obtain ⟨hR4, hR5⟩ := hR2 hv
            rw [c3] at hR4
            rw [hq.2.1] at hR5
            have HQ := hid (And.intro (hR1.trans hv) (And.intro hR4 hR5))
            have f8' : (8 ≤ N - M09.rdP X N j 0 ⟨da, db, ds, dt⟩) = False := eq_false h8
            have f0 : (0 < l - (j : Int)) = False := eq_false (by omega)
            have f01 : (l - (j : Int) = 0) = True := eq_true hj0
            have f02 : (l - (j : Int) == 0) = true := beq_iff_eq.2 hj0
            clear hv h8
            clear c1 c2 c4 c5 c6 c7 c8 hR1 hR2 hR3 hML eS hq ho
            generalize M09.rdL X N j 0 ⟨da, db, ds, dt⟩ = L at *
            generalize M09.rdP X N j 0 ⟨da, db, ds, dt⟩ = P at *
            generalize bl (N - P) (val X / p2 P) = R at *
            generalize N - P = M at *
            generalize hJJ : l - (j : Int) = J at *
            clear hJJ hlt hj hj0
            have lyB := lB
            have lyB1 := lB1
            obtain ⟨sa, sb, ss, st⟩ := S
            dsimp only at S1
            obtain ⟨s0, s1, s2, s3, s4, s5, s6, sf0, sf1, sf2, sf3, sf4, sf5, sf6⟩ := id S1
            obtain ⟨z0, z1, z2, z3, z4, z5, z6, zf0, zf1, zf2, zf3, zf4, zf5, zf6⟩ := id Z1
            obtain ⟨g0, g1, gf0, gf1⟩ := id G1
            go_wp2_with ((go_at_call 53; (with_reducible refine (hBt _ hrX1).mono ?_); rintro e w8 ⟨a5, l5, q5, rfl, ho8, hb8⟩; have z8 := hb8.size; obtain ⟨a6, q6, e6, r6⟩ := ho8.row HRb.out; have f8 := ownGe ho8; cases e6; have v8 := S1.below hb8 lyB; have u8 := Z1.below hb8 lyB1; have S8 := (v8.put5 (.slice a5 R.length q5)).put6 (.int .i64 M); have Z8 := (u8.set (g' := w.heap.size) (i := 5) (x := .slice a5 R.length q5) (by omega)).set (g' := w.heap.size) (i := 6) (x := .int .i64 M) (by omega); have n6 : ∀ x, a5 = some x → x.block ≠ w.heap.size := (fun x hx => by have := f8 x hx; omega); have n61 : ∀ x, a5 = some x → x.block ≠ w.heap.size + 1 := (fun x hx => by have := f8 x hx; omega); have R8 := rowS (g := w.heap.size) (i := 6) (u := .int .i64 M) (rowS (g := w.heap.size) (i := 5) (u := .slice a5 R.length q5) r6 n6) n6; have L8 := rowS (g := w.heap.size) (i := 6) (u := .int .i64 M) (rowS (g := w.heap.size) (i := 5) (u := .slice a5 R.length q5) (hrow.same hb8) nL) nL; have hB8 := bS (g := w.heap.size) (i := 6) (v := .int .i64 M) (bS (g := w.heap.size) (i := 5) (v := .slice a5 R.length q5) (hb1.trans (hb8.mono (by omega))) (Nat.le_refl _)) (Nat.le_refl _); have l8 : w.heap.size < w8.heap.size := (by omega); have l81 : w.heap.size + 1 < w8.heap.size := (by omega); clear s0 s1 s2 s3 s4 s5 s6 sf0 sf1 sf2 sf3 sf4 sf5 sf6 z0 z1 z2 z3 z4 z5 z6 zf0 zf1 zf2 zf3 zf4 zf5 zf6 g0 g1 gf0 gf1; obtain ⟨s0, s1, s2, s3, s4, s5, s6, sf0, sf1, sf2, sf3, sf4, sf5, sf6⟩ := id v8; obtain ⟨z0, z1, z2, z3, z4, z5, z6, zf0, zf1, zf2, zf3, zf4, zf5, zf6⟩ := id u8))
            refine bodyPost_ret_by (v := .tuple #[.agg #[.int .i64 J, .int .i64 sa, .int .i64 sb, .int .u64 ss, .int .u64 st, .slice a5 R.length q5, .int .i64 M], .slice av L.length cv, .int .i64 0]) (by rw [results_ctt rfl]; go_simp) rfl ?_
            obtain ⟨q1, q2, q3⟩ := HQ.out
            rw [q1, q2, q3]
            exact ⟨a5, q5, av, cv, rfl, Rs.row7 R8 n61 _ _ _ _ _ _ _, Rs.row7 L8 nL1 _ _ _ _ _ _ _, Below.set7 hB8 (by omega) _ _ _ _ _ _ _, fun x hx => by have := f8 x hx; omega, fun x hx => by have := fL x hx; omega⟩

set_option maxRecDepth 4000 in
set_option maxHeartbeats 8000000 in
theorem rfeed_any (a : Option Addr) (len cap : Nat) (s : R4) (b : Option Addr) (blen bcap : Nat) (bs : List Int) (w : World) (hr : RowIn .u8 w a len cap s.xs) (hi : isR s) (hrb : RowIn .u8 w b blen bcap bs) :
    Calls Try.prog 18 #[vR a len cap s, .slice b blen bcap] w fun e w' => ∃ a1 c1 a2 c2, e = .returned (.tuple #[vR a1 (reR s bs).xs.length c1 (reR s bs), .slice a2 (reV s bs).length c2, .int .i64 (reE s bs)]) ∧ RowIn .u8 w' a1 (reR s bs).xs.length c1 (reR s bs).xs ∧ RowIn .u32 w' a2 (reV s bs).length c2 (reV s bs) ∧ Below w.heap.size w w' := by
  have hC := fun w' hb => rchk10_any a len cap s w' (hr.same (w' := w') hb) hi
  obtain rfl := hrb.hl
  have hcc := hrb.hc
  have hmm := hrb.hm
  by_cases hok : okR s = true
  case neg =>
    have e : reE s bs = 8 := by rw [reE, if_neg hok]
    rw [reR, reV, if_neg (by rw [e]; decide), if_neg (by rw [e]; decide), e]
    rw [rcE, if_neg hok] at hC
    clear e hok
    obtain ⟨l, ⟨da, db, ds, dt⟩, xs, n⟩ := s
    unfold vR zR zD at *
    dsimp only at hC ⊢
    go_enter Try.func18, Try.ntmps18
    go_wp2_with (go_at_call 19; (with_reducible refine (hC _ (below2 _ _ _)).mono ?_); rintro e w1 ⟨rfl, hb1⟩; have hB1 := (below2 w _ _).trans (hb1.mono (by rw [size2]; omega)); have z1 := hb1.size; rw [size2] at z1; obtain ⟨c0, c1, c2, c3, c4, c5, c6, q0, q1, q2, q3, q4, q5, q6⟩ := (Box7.of (blk2 w _ _)).below hb1 (by rw [size2]; omega); have l2 : w.heap.size + 1 < w1.heap.size := (by omega))
    refine bodyPost_ret_by (v := .tuple #[.agg #[.int .i64 0, .int .i64 0, .int .i64 0, .int .u64 0, .int .u64 0, .slice none 0 0, .int .i64 0], .slice none 0 0, .int .i64 8]) (by rw [results_ctt rfl]; go_simp) rfl ?_
    exact ⟨none, 0, none, 0, rfl, RowIn.nil, RowIn.nil, Below.set7 hB1 (by omega) _ _ _ _ _ _ _⟩
  rw [rcE, if_pos hok] at hC
  by_cases h41 : bs.length ≤ 41000
  case neg =>
    have e : reE s bs = 4 := by rw [reE, if_pos hok, if_pos (by omega)]
    rw [reR, reV, if_neg (by rw [e]; decide), if_neg (by rw [e]; decide), e]
    have f1 : (41000 < (bs.length : Int)) = True := eq_true (by omega)
    clear e hok
    obtain ⟨l, ⟨da, db, ds, dt⟩, xs, n⟩ := s
    unfold vR zR zD at *
    dsimp only at hC ⊢
    go_enter Try.func18, Try.ntmps18
    go_wp2_with (go_at_call 19; (with_reducible refine (hC _ (below2 _ _ _)).mono ?_); rintro e w1 ⟨rfl, hb1⟩; have hB1 := (below2 w _ _).trans (hb1.mono (by rw [size2]; omega)); have z1 := hb1.size; rw [size2] at z1; obtain ⟨c0, c1, c2, c3, c4, c5, c6, q0, q1, q2, q3, q4, q5, q6⟩ := (Box7.of (blk2 w _ _)).below hb1 (by rw [size2]; omega); have l2 : w.heap.size + 1 < w1.heap.size := (by omega))
    refine bodyPost_ret_by (v := .tuple #[.agg #[.int .i64 0, .int .i64 0, .int .i64 0, .int .u64 0, .int .u64 0, .slice none 0 0, .int .i64 0], .slice none 0 0, .int .i64 4]) (by rw [results_ctt rfl]; go_simp) rfl ?_
    exact ⟨none, 0, none, 0, rfl, RowIn.nil, RowIn.nil, Below.set7 hB1 (by omega) _ _ _ _ _ _ _⟩
  have hF := fun w' hb => fed_any a len cap s b bs.length bcap bs w' (hr.same (w' := w') hb) hi (hrb.same (w' := w') hb) hok h41
  have f1 : (41000 < (bs.length : Int)) = False := eq_false (by omega)
  generalize reR s bs = XR at hF ⊢
  generalize reV s bs = L at hF ⊢
  generalize reE s bs = E at hF ⊢
  clear hok hi
  obtain ⟨l, ⟨da, db, ds, dt⟩, xs, n⟩ := s
  obtain ⟨xl, ⟨xa, xb, xs', xt⟩, X, xn⟩ := XR
  unfold vR at *
  dsimp only at hC hF ⊢
  go_enter Try.func18, Try.ntmps18
  go_wp2_with (first  | (go_at_call 19; (with_reducible refine (hC _ (below2 _ _ _)).mono ?_); rintro e w1 ⟨rfl, hb1⟩; have hB1 := (below2 w _ _).trans (hb1.mono (by rw [size2]; omega)); have z1 := hb1.size; rw [size2] at z1; have S1 := (Box7.of (blk2a w _ _)).below hb1 (by rw [size2]; omega); have Z1 := (Box7.of (blk2 w _ _)).below hb1 (by rw [size2]; omega); obtain ⟨c0, c1, c2, c3, c4, c5, c6, q0, q1, q2, q3, q4, q5, q6⟩ := id S1; have l2 : w.heap.size + 1 < w1.heap.size := (by omega))  | (go_at_call 36; (with_reducible refine (hF _ hB1).mono ?_); rintro e w2 ⟨a1, d1, a2, d2, rfl, r1, r2, hb2, f3, f4⟩; have hB2 := hB1.trans (hb2.mono (by omega)); have z2 := hb2.size; have Z2 := Z1.below hb2 l2; clear c0 c1 c2 c3 c4 c5 c6 q0 q1 q2 q3 q4 q5 q6; obtain ⟨c0, c1, c2, c3, c4, c5, c6, q0, q1, q2, q3, q4, q5, q6⟩ := id Z2; have l3 : w.heap.size + 1 < w2.heap.size := (by omega)))
  refine bodyPost_ret_by (v := .tuple #[.agg #[.int .i64 xl, .int .i64 xa, .int .i64 xb, .int .u64 xs', .int .u64 xt, .slice a1 X.length d1, .int .i64 xn], .slice a2 L.length d2, .int .i64 E]) (by rw [results_ctt rfl]; go_simp) rfl ?_
  exact ⟨a1, d1, a2, d2, rfl, Rs.row7 r1 (fun x hx => by have := f3 x hx; omega) _ _ _ _ _ _ _, Rs.row7 r2 (fun x hx => by have := f4 x hx; omega) _ _ _ _ _ _ _, Below.set7 hB2 (by omega) _ _ _ _ _ _ _⟩
end Go.Proofs.Ytmnhepcnbdbhoaa.R10
