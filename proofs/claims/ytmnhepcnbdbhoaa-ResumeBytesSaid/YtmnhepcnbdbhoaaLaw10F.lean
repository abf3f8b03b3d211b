/- The laws of layer 10: feeding pieces one by one. -/
import Derived.Test.YtmnhepcnbdbhoaaLaw10
namespace Go.Proofs.Ytmnhepcnbdbhoaa.Wk
open Go.Proofs Go.RowKit Go.Proofs.Ytmnhepcnbdbhoaa.Kit Go.Proofs.Ytmnhepcnbdbhoaa.M01 Go.Proofs.Ytmnhepcnbdbhoaa.M02 Go.Proofs.Ytmnhepcnbdbhoaa.M05 Go.Proofs.Ytmnhepcnbdbhoaa.M06 Go.Proofs.Ytmnhepcnbdbhoaa.M07 Go.Proofs.Ytmnhepcnbdbhoaa.M08 Go.Proofs.Ytmnhepcnbdbhoaa.M10 Go.Proofs.Ytmnhepcnbdbhoaa.Bt Go.Proofs.Ytmnhepcnbdbhoaa.R02 Go.Proofs.Ytmnhepcnbdbhoaa.R10 Go.Proofs.Ytmnhepcnbdbhoaa.Rs
set_option linter.unusedVariables false
set_option linter.unusedSimpArgs false
attribute [local irreducible] wpStill


theorem info10_u32 : (Try.prog.info? 40).map (fun i => (i.zero, i.size, i.bytes)) = some (some (.int .u32 0), 1, 4) := by kernel_rfl
theorem take_snoc_ps {ps : List (List Int)} {k : Nat} (h : k < ps.length) : (ps.take (k + 1)).flatten = (ps.take k).flatten ++ ps.getD k [] := by
  rw [List.take_add_one, List.flatten_append, List.getD_eq_getElem?_getD, List.getElem?_eq_getElem h]
  simp
theorem ownNe {k : IntKind} {w : World} {base g : Nat} {e : TypeId} {v : Value} {xs : List Int} (h : OwnI k w base e v xs) (hg : g < base) : v.ownBlock ≠ some g := fun q => by have := World.ownsRow.lt h g q; omega
theorem row7K {k : IntKind} {w : World} {a : Option Addr} {len cap : Nat} {xs : List Int} {g : Nat} (h : RowIn k w a len cap xs) (hne : xs ≠ [] → ∀ x, a = some x → x.block ≠ g) (q0 q1 q2 q3 q4 q5 q6 : Value) :
    RowIn k (((((((w.setCell ⟨g, 0, none⟩ q0).setCell ⟨g, 1, none⟩ q1).setCell ⟨g, 2, none⟩ q2).setCell ⟨g, 3, none⟩ q3).setCell ⟨g, 4, none⟩ q4).setCell ⟨g, 5, none⟩ q5).setCell ⟨g, 6, none⟩ q6) a len cap xs := rowK (rowK (rowK (rowK (rowK (rowK (rowK h hne) hne) hne) hne) hne) hne) hne
theorem ownRow2 {k : IntKind} {w : World} {base g : Nat} {e : TypeId} {v : Value} {xs : List Int} (h : OwnI k w base e v xs) (hw : ∀ x ∈ xs, (Lit.int k x).wf = true) (hg : g < base) : ∃ a cap, v = .slice a xs.length cap ∧ RowIn k w a xs.length cap xs ∧ (xs ≠ [] → ∀ x, a = some x → x.block ≠ g) ∧ (∀ x, a = some x → base ≤ x.block) := by
  obtain ⟨a, cap, hv, hr, hc, hm, _, hb⟩ := h.reads hw
  exact ⟨a, cap, hv, ⟨hr, rfl, hc, by unfold maxLen at hm; exact hm⟩, fun _ x hx => by have := (hb x hx).1; omega, fun x hx => (hb x hx).1⟩
theorem RowIn.grown {k : IntKind} {w w' : World} {a : Option Addr} {len cap : Nat} {xs : List Int} {row : Option Nat} (h : RowIn k w a len cap xs) (hg : w.grownBy w' row) (hne : xs ≠ [] → ∀ x, a = some x → row ≠ some x.block) : RowIn k w' a len cap xs := by
  refine ⟨⟨?_, h.rd.2⟩, h.hl, h.hc, h.hm⟩
  rcases h.rd.1 with h1 | ⟨b, off, rfl, hc⟩
  · exact .inl h1
  · by_cases hx : xs = []
    · exact .inl hx
    · refine .inr ⟨b, off, rfl, fun j hj => ?_⟩
      have := hc j hj
      rw [World.cell?_of_block (hg.block b (World.block_lt_of_cell? w _ this) (fun q => hne hx _ rfl q.symm))]
      exact this

set_option maxRecDepth 4000 in
set_option maxHeartbeats 8000000 in
theorem feeds_any (a : Option Addr) (len cap : Nat) (s : R4) (pa : Option Addr) (plen pcap : Nat) (ps : List (List Int)) (w : World) (hr : RowIn .u8 w a len cap s.xs) (hi : isR s) (hok : okR s = true) (hp : Kit.RowsIn w pa plen pcap ps) (hbb : isByte ps.flatten) (hlen : ps.flatten.length ≤ 41000) :
    Calls Try.prog 20 #[vR a len cap s, .slice pa plen pcap] w fun e w' => ∃ a1 c1 a2 c2, e = .returned (.tuple #[vR a1 (reR s ps.flatten).xs.length c1 (reR s ps.flatten), .slice a2 (reV s ps.flatten).length c2, .int .i64 (reE s ps.flatten)]) ∧ RowIn .u8 w' a1 (reR s ps.flatten).xs.length c1 (reR s ps.flatten).xs ∧ RowIn .u32 w' a2 (reV s ps.flatten).length c2 (reV s ps.flatten) ∧ Below w.heap.size w w' ∧ ((reR s ps.flatten).xs ≠ [] → ∀ x, a1 = some x → (s.xs ≠ [] ∧ a = some x) ∨ w.heap.size ≤ x.block) ∧ Fresh w a2 := by
  obtain ⟨rfl, hcc, hmm⟩ := hp.len
  obtain rfl := hr.hl
  obtain ⟨i0, hii, hz0, hz1, hz2⟩ := info_parts info10_u32
  obtain ⟨n1, n2, n3⟩ := rv_nil hi hok
  have hNE : ∀ e, reE s ps.flatten = e → e = rvE s ps.flatten := fun e h => by rw [← h, reE, if_pos hok, if_neg (by omega)]
  have hEE : reE s ps.flatten = rvE s ps.flatten := by rw [reE, if_pos hok, if_neg (by omega)]
  have X0 := Box7.of (blk2a w (.cells #[.int .i64 s.l, .int .i64 s.d.a, .int .i64 s.d.b, .int .u64 s.d.s, .int .u64 s.d.t, .slice a s.xs.length cap, .int .i64 s.n] 29) (.cells #[.int .i64 0, .int .i64 0, .int .i64 0, .int .u64 0, .int .u64 0, .slice none 0 0, .int .i64 0] 29))
  have Z0 := Box7.of (blk2 w (.cells #[.int .i64 s.l, .int .i64 s.d.a, .int .i64 s.d.b, .int .u64 s.d.s, .int .u64 s.d.t, .slice a s.xs.length cap, .int .i64 s.n] 29) (.cells #[.int .i64 0, .int .i64 0, .int .i64 0, .int .u64 0, .int .u64 0, .slice none 0 0, .int .i64 0] 29))
  have hB0 := below2 w (.cells #[.int .i64 s.l, .int .i64 s.d.a, .int .i64 s.d.b, .int .u64 s.d.s, .int .u64 s.d.t, .slice a s.xs.length cap, .int .i64 s.n] 29) (.cells #[.int .i64 0, .int .i64 0, .int .i64 0, .int .u64 0, .int .u64 0, .slice none 0 0, .int .i64 0] 29)
  unfold vR
  go_enter Try.func20, Try.ntmps20
  go_wp2
  go_loopw [7, 8] (fun v t wr => ∃ k : Nat, k ≤ ps.length ∧ t = .int .i64 k ∧ Hid (rvE s (ps.take k).flatten = 0) ∧ (∃ S a' q', S = rvR s (ps.take k).flatten ∧ Box7 wr w.heap.size (.int .i64 S.l) (.int .i64 S.d.a) (.int .i64 S.d.b) (.int .u64 S.d.s) (.int .u64 S.d.t) (.slice a' S.xs.length q') (.int .i64 S.n) ∧ RowIn .u8 wr a' S.xs.length q' S.xs ∧ (S.xs ≠ [] → ∀ x, a' = some x → (s.xs ≠ [] ∧ a = some x) ∨ w.heap.size + 2 ≤ x.block)) ∧ Box7 wr (w.heap.size + 1) (.int .i64 0) (.int .i64 0) (.int .i64 0) (.int .u64 0) (.int .u64 0) (.slice none 0 0) (.int .i64 0) ∧ OwnI .u32 wr (w.heap.size + 2) 40 v (ruL s (ps.take k).flatten) ∧ Below w.heap.size w wr ∧ w.heap.size + 2 ≤ wr.heap.size) (fun _ t _ => ps.length - (intOf t).toNat)
  case atStart =>
    refine ⟨0, by omega, by go_num, hid (by rw [List.take_zero]; exact n1), ⟨s, a, cap, by rw [List.take_zero]; exact n2.symm, X0, hr.same hB0, fun h x hx => .inl ⟨h, hx⟩⟩, Z0, ?_, hB0, by rw [size2]; omega⟩
    rw [List.take_zero, show ([] : List (List Int)).flatten = [] from rfl, n3]; exact OwnI.nil
  case round =>
    obtain ⟨k, hk, rfl, hE, ⟨S, a', q', eS, X1, hrS, hneS⟩, Z1, ho, hb, hz⟩ := hrel
    clear X0 Z0 hB0
    have hbC : isByte (ps.take k).flatten := fun x hx => hbb x (by rw [← List.take_append_drop k ps, List.flatten_append]; exact List.mem_append_left _ hx)
    have hCl : (ps.take k).flatten.length + ((ps.drop k).flatten).length = ps.flatten.length := by rw [← List.length_append, ← List.flatten_append, List.take_append_drop]
    obtain ⟨ok1, iS, -⟩ := rv_ok hi hok hbC (by omega) hE.out
    rw [← eS] at ok1 iS
    by_cases hlt : k < ps.length
    · obtain ⟨pb, po, pa2, pl2, pc2, rfl, pcell, hrP⟩ := (hp.same hb).at hlt
      have hsn := take_snoc_ps hlt
      have hbC2 : isByte (ps.take (k + 1)).flatten := fun x hx => hbb x (by rw [← List.take_append_drop (k + 1) ps, List.flatten_append]; exact List.mem_append_left _ hx)
      have hCl2 : (ps.take (k + 1)).flatten.length + ((ps.drop (k + 1)).flatten).length = ps.flatten.length := by rw [← List.length_append, ← List.flatten_append, List.take_append_drop]
      have hbP : isByte (ps.getD k []) := byte_of hrP.rd
      have hPl : (ps.take k).flatten.length + (ps.getD k []).length ≤ 41000 := by rw [hsn, List.length_append] at hCl2; omega
      obtain ⟨-, pc1⟩ := rv_pieces (b := (ps.take k).flatten) (c := ps.getD k []) hi hok hbC hbP hPl
      obtain ⟨pc1, pc2', pc3⟩ := pc1 hE.out
      rw [← hsn, ← eS] at pc1 pc2' pc3
      have hall : rvE s (ps.take (k + 1)).flatten ≠ 0 → rvE s ps.flatten = rvE s (ps.take (k + 1)).flatten := fun h => by
        have hbD : isByte (ps.drop (k + 1)).flatten := fun x hx => hbb x (by rw [← List.take_append_drop (k + 1) ps, List.flatten_append]; exact List.mem_append_right _ hx)
        have := (rv_pieces (b := (ps.take (k + 1)).flatten) (c := (ps.drop (k + 1)).flatten) hi hok hbC2 hbD (by omega)).1 h
        rwa [← List.flatten_append, List.take_append_drop] at this
      have hu1 := (ru_all hi hok hbC (by omega)).2.2.2.2.2.1
      have hu2 := (ru_all iS ok1 hbP (by omega)).2.2.2.2
      have hSl := (okR_iff.1 ok1).1
      have hsl := (okR_iff.1 hok).1
      have hF := fun w' r rp => feed_any a' S.xs.length q' S pa2 pl2 pc2 (ps.getD k []) w' r iS rp
      have e0 : reE S (ps.getD k []) = rvE S (ps.getD k []) := by rw [reE, if_pos ok1, if_neg (by omega)]
      have eR : rvE S (ps.getD k []) = 0 → reR S (ps.getD k []) = rvR S (ps.getD k []) ∧ reV S (ps.getD k []) = ruL S (ps.getD k []) := fun h => by rw [reR, reV, e0, if_pos h, if_pos h]; exact ⟨rfl, rfl⟩
      rw [e0] at hF
      rw [pc1] at hall
      have HA := hid (And.intro hall (And.intro pc1 (And.intro pc2' (And.intro pc3 (And.intro eR (And.intro hu1 hu2))))))
      clear hall pc1 pc2' pc3 eR e0 hu1 hu2 hsn hbC2 hCl2 hbP hbC hCl ok1
      generalize rvE S (ps.getD k []) = E at HA hF
      generalize reR S (ps.getD k []) = XR at HA hF
      generalize reV S (ps.getD k []) = L at HA hF
      obtain ⟨xl, ⟨xa, xb, xs, xt⟩, X, xn⟩ := XR
      obtain ⟨sl, ⟨sa, sb, ss, st⟩, sx, sn⟩ := S
      obtain ⟨lS, hlS⟩ : ∃ l, sx.length = l := ⟨_, rfl⟩
      obtain ⟨lX, hlX⟩ : ∃ l, X.length = l := ⟨_, rfl⟩
      obtain ⟨lL, hlL⟩ : ∃ l, L.length = l := ⟨_, rfl⟩
      unfold vR at hF
      simp only [hlS, hlX, hlL] at hF X1 hrS
      have HL := hid (And.intro hlX hlL)
      clear hlS hlX hlL
      obtain ⟨s0, s1, s2, s3, s4, s5, s6, sf0, sf1, sf2, sf3, sf4, sf5, sf6⟩ := id X1
      have lB : w.heap.size < wr.heap.size := by omega
      have lP : pb < wr.heap.size := World.block_lt_of_cell? wr _ pcell
      go_wp2_with fail
      go_cut [9, 10, 11] (fun s9 s10 s11 wx => ∃ K1 a3 q3 a4 q4, s9 = .pointer (some ⟨K1, 0, none⟩) ∧ s10 = .slice a4 lL q4 ∧ s11 = .int .i64 E ∧ wr.heap.size ≤ K1 ∧ K1 < wx.heap.size ∧ Box7 wx K1 (.int .i64 xl) (.int .i64 xa) (.int .i64 xb) (.int .u64 xs) (.int .u64 xt) (.slice a3 lX q3) (.int .i64 xn) ∧ RowIn .u8 wx a3 lX q3 X ∧ RowIn .u32 wx a4 lL q4 L ∧ Fresh wr a3 ∧ Fresh wr a4 ∧ Below wr.heap.size wr wx)
      case first =>
        have nn0_0 : w.heap.size ≠ wr.heap.size := by omega
        have nn1_0 : pb ≠ wr.heap.size := by omega
        have ll0 : w.heap.size < wr.heap.size + 1 := Nat.lt_succ_of_lt lB
        have ll1 : pb < wr.heap.size + 1 := Nat.lt_succ_of_lt lP
        go_region_held3 (fun w' => w'.cell? ⟨w.heap.size, 0, none⟩ = some (.int .i64 sl) ∧ w'.cell? ⟨w.heap.size, 1, none⟩ = some (.int .i64 sa) ∧ w'.cell? ⟨w.heap.size, 2, none⟩ = some (.int .i64 sb) ∧ w'.cell? ⟨w.heap.size, 3, none⟩ = some (.int .u64 ss) ∧ w'.cell? ⟨w.heap.size, 4, none⟩ = some (.int .u64 st) ∧ w'.cell? ⟨w.heap.size, 5, none⟩ = some (.slice a' lS q') ∧ w'.cell? ⟨w.heap.size, 6, none⟩ = some (.int .i64 sn) ∧ w'.cell? ⟨pb, po + k, none⟩ = some (.slice pa2 pl2 pc2)) (first | (simp only [kS, kA, kD, World.size_setCell, World.size_alloc, ne_eq, not_false_eq_true, and_self, nn0_0, nn1_0, gg0, gh0, gg1, gh1, st0, st1, st2, st3, st4, st5, st6, st7]; done) | (simp only [kA, kD, World.size_setCell, World.size_alloc, and_self, s0, s1, s2, s3, s4, s5, s6, pcell, lB, lP, ll0, ll1]; done)) (first | (go_at_call 10; (with_reducible refine (hF wr.drew (hrS.same ((Below.refl wr.heap.size wr).drew)) (hrP.same ((Below.refl wr.heap.size wr).drew))).mono ?_); rintro e w3 ⟨a3, q3, a4, q4, rfl, rr3, rr4, hb3, F3, F4⟩; have hwz : wr.heap.size + 0 ≤ w3.heap.size := (by have t : wr.heap.size ≤ w3.heap.size := hb3.size; exact t); have hbW : Below wr.heap.size wr w3 := (Below.refl wr.heap.size wr).drew.trans (hb3.mono (show wr.heap.size ≤ wr.heap.size by exact Nat.le_refl _)); have Fwr : Fresh wr a3 := F3.lift (show wr.heap.size ≤ wr.heap.size by exact (Nat.le_refl wr.heap.size)); have Fwr2 : Fresh wr a4 := F4.lift (show wr.heap.size ≤ wr.heap.size by exact (Nat.le_refl wr.heap.size)); have st0 := cell_below s0 hbW lB; have st1 := cell_below s1 hbW lB; have st2 := cell_below s2 hbW lB; have st3 := cell_below s3 hbW lB; have st4 := cell_below s4 hbW lB; have st5 := cell_below s5 hbW lB; have st6 := cell_below s6 hbW lB; have st7 := cell_below pcell hbW lP; have gg0 : w.heap.size < w3.heap.size := Nat.lt_of_lt_of_le lB hbW.size; have gh0 := Nat.lt_succ_of_lt gg0; have gg1 : pb < w3.heap.size := Nat.lt_of_lt_of_le lP hbW.size; have gh1 := Nat.lt_succ_of_lt gg1) | (go_at_call 10; (with_reducible refine (hF (wr.alloc (.cells #[.int .i64 0, .int .i64 0, .int .i64 0, .int .u64 0, .int .u64 0, .slice none 0 0, .int .i64 0] 29)).drew (hrS.same ((below1 wr (.cells #[.int .i64 0, .int .i64 0, .int .i64 0, .int .u64 0, .int .u64 0, .slice none 0 0, .int .i64 0] 29)).drew)) (hrP.same ((below1 wr (.cells #[.int .i64 0, .int .i64 0, .int .i64 0, .int .u64 0, .int .u64 0, .slice none 0 0, .int .i64 0] 29)).drew))).mono ?_); rintro e w3 ⟨a3, q3, a4, q4, rfl, rr3, rr4, hb3, F3, F4⟩; have hwz : wr.heap.size + 1 ≤ w3.heap.size := (by have t : (wr.alloc (.cells #[.int .i64 0, .int .i64 0, .int .i64 0, .int .u64 0, .int .u64 0, .slice none 0 0, .int .i64 0] 29)).heap.size ≤ w3.heap.size := hb3.size; rw [size1] at t; exact t); have hbW : Below wr.heap.size wr w3 := (below1 wr (.cells #[.int .i64 0, .int .i64 0, .int .i64 0, .int .u64 0, .int .u64 0, .slice none 0 0, .int .i64 0] 29)).drew.trans (hb3.mono (show wr.heap.size ≤ (wr.alloc (.cells #[.int .i64 0, .int .i64 0, .int .i64 0, .int .u64 0, .int .u64 0, .slice none 0 0, .int .i64 0] 29)).heap.size by rw [size1]; omega)); have Fwr : Fresh wr a3 := F3.lift (show wr.heap.size ≤ (wr.alloc (.cells #[.int .i64 0, .int .i64 0, .int .i64 0, .int .u64 0, .int .u64 0, .slice none 0 0, .int .i64 0] 29)).heap.size by rw [size1]; have := (Nat.le_refl wr.heap.size); omega); have Fwr2 : Fresh wr a4 := F4.lift (show wr.heap.size ≤ (wr.alloc (.cells #[.int .i64 0, .int .i64 0, .int .i64 0, .int .u64 0, .int .u64 0, .slice none 0 0, .int .i64 0] 29)).heap.size by rw [size1]; have := (Nat.le_refl wr.heap.size); omega); have hwl0 : wr.heap.size < w3.heap.size := (by omega); have Y0 := (Box7.of (blk1 wr (.cells #[.int .i64 0, .int .i64 0, .int .i64 0, .int .u64 0, .int .u64 0, .slice none 0 0, .int .i64 0] 29))).drew.below hb3 (show wr.heap.size < (wr.alloc (.cells #[.int .i64 0, .int .i64 0, .int .i64 0, .int .u64 0, .int .u64 0, .slice none 0 0, .int .i64 0] 29)).heap.size by rw [size1]; omega); have y0c0 := Y0.c0; have y0f0 := Y0.f0; have y0c1 := Y0.c1; have y0f1 := Y0.f1; have y0c2 := Y0.c2; have y0f2 := Y0.f2; have y0c3 := Y0.c3; have y0f3 := Y0.f3; have y0c4 := Y0.c4; have y0f4 := Y0.f4; have y0c5 := Y0.c5; have y0f5 := Y0.f5; have y0c6 := Y0.c6; have y0f6 := Y0.f6; have B0 := Blk7.of Y0; have me0 := F4.ne (g := wr.heap.size) (show wr.heap.size < (wr.alloc (.cells #[.int .i64 0, .int .i64 0, .int .i64 0, .int .u64 0, .int .u64 0, .slice none 0 0, .int .i64 0] 29)).heap.size by rw [size1]; omega); have ne0 := F3.ne (g := wr.heap.size) (show wr.heap.size < (wr.alloc (.cells #[.int .i64 0, .int .i64 0, .int .i64 0, .int .u64 0, .int .u64 0, .slice none 0 0, .int .i64 0] 29)).heap.size by rw [size1]; omega); have st0 := cell_below s0 hbW lB; have st1 := cell_below s1 hbW lB; have st2 := cell_below s2 hbW lB; have st3 := cell_below s3 hbW lB; have st4 := cell_below s4 hbW lB; have st5 := cell_below s5 hbW lB; have st6 := cell_below s6 hbW lB; have st7 := cell_below pcell hbW lP; have gg0 : w.heap.size < w3.heap.size := Nat.lt_of_lt_of_le lB hbW.size; have gh0 := Nat.lt_succ_of_lt gg0; have gg1 : pb < w3.heap.size := Nat.lt_of_lt_of_le lP hbW.size; have gh1 := Nat.lt_succ_of_lt gg1) | fail)
        all_goals (try go_wp2_with fail)
        all_goals go_meet
        all_goals refine ⟨_, a3, q3, a4, q4, rfl, rfl, rfl, ?_, ?_, ?_, ?_, ?_, Fwr, Fwr2, ?_⟩
        all_goals first
          | (with_reducible refine Nat.le_refl _)
          | ((try simp only [World.size_setCell, World.size_alloc]); omega)
          | ((repeat (first | with_reducible exact B0 | (with_reducible refine box7P ?_) | (with_reducible refine box7N (by (try simp only [World.size_setCell, World.size_alloc]); done)) | (with_reducible refine box7N (by simp only [World.size_setCell, World.size_alloc])) | (with_reducible refine box7N rfl) | (with_reducible refine box7A ?_) | (with_reducible refine box7S ?_ (by omega)) | (with_reducible refine blk7A ?_) | (with_reducible refine blk7S ?_ (by omega)))); done)
          | ((repeat (first | with_reducible exact rr3 | (with_reducible refine rowA ?_) | (with_reducible refine rowS ?_ ne0))); done)
          | ((repeat (first | with_reducible exact rr4 | (with_reducible refine rowA ?_) | (with_reducible refine rowS ?_ me0))); done)
          | ((repeat (first | with_reducible exact hbW | (with_reducible refine bS ?_ (by omega)) | (with_reducible refine bA ?_ (by (try simp only [World.size_setCell, World.size_alloc]); omega)))); done)
      case rest =>
        obtain ⟨K1, a3, q3, a4, q4, rfl, rfl, rfl, gK1, lK1, XK1, rK, rKb, FK, FKb, hb3⟩ := hcut
        obtain ⟨w3, ew3⟩ : ∃ x, x = wc := ⟨_, rfl⟩
        subst ew3
        have X3 := X1.below hb3 lB
        have Z3 := Z1.below hb3 (show w.heap.size + 1 < wr.heap.size by omega)
        have ho3 := ho.below hb3
        have hbw3 : Below w.heap.size w w3 := hb.trans (hb3.mono (by omega))
        have z3 := hb3.size
        clear s0 s1 s2 s3 s4 s5 s6 sf0 sf1 sf2 sf3 sf4 sf5 sf6 pcell hF hrP hrS
        obtain ⟨k0, k1, k2, k3, k4, k5, k6, kf0, kf1, kf2, kf3, kf4, kf5, kf6⟩ := id XK1
        obtain ⟨z0, z1, z2, z3, z4, z5, z6, zf0, zf1, zf2, zf3, zf4, zf5, zf6⟩ := id Z3
        obtain ⟨s0, s1, s2, s3, s4, s5, s6, sf0, sf1, sf2, sf3, sf4, sf5, sf6⟩ := id X3
        have nK : ∀ x, a3 = some x → x.block ≠ w.heap.size := fun x hx => by have := FK x hx; omega
        have nKb : ∀ x, a4 = some x → x.block ≠ w.heap.size := fun x hx => by have := FKb x hx; omega
        have hno := ownNe ho (g := w.heap.size) (by omega)
        have l3 : w.heap.size < w3.heap.size := by omega
        have l31 : w.heap.size + 1 < w3.heap.size := by omega
        by_cases hE0 : E = 0
        · subst hE0
          obtain ⟨-, pc1, pc2', pc3, eR, hu1, -, hu2, -⟩ := HA.out
          obtain ⟨eR1, eR2⟩ := eR rfl
          have hlL : L.length = lL := HL.out.2
          have hlL4 : lL ≤ 4000 := by rw [← hlL, eR2]; have t : sl ≤ 4000 := hSl.2; have t2 : (((ruL _ (ps.getD k [])).length : Nat) : Int) + _ = sl := hu2; omega
          have hl4 : (ruL s (ps.take k).flatten).length ≤ 4000 := by omega
          have HB := hid (And.intro pc1 (And.intro (pc2'.trans eR1.symm) (pc3.trans (by rw [← eR2]))))
          clear pc1 pc2' pc3 eR eR1 eR2 hu1 hu2 HA
          have O4 := (((((((ho3.other (g := w.heap.size) (i := 0) (u := .int .i64 xl) hno).other (g := w.heap.size) (i := 1) (u := .int .i64 xa) hno).other (g := w.heap.size) (i := 2) (u := .int .i64 xb) hno).other (g := w.heap.size) (i := 3) (u := .int .u64 xs) hno).other (g := w.heap.size) (i := 4) (u := .int .u64 xt) hno).other (g := w.heap.size) (i := 5) (u := .slice a3 lX q3) hno).other (g := w.heap.size) (i := 6) (u := .int .i64 xn) hno)
          have R4 := (rowS (g := w.heap.size) (i := 6) (u := .int .i64 xn) (rowS (g := w.heap.size) (i := 5) (u := .slice a3 lX q3) (rowS (g := w.heap.size) (i := 4) (u := .int .u64 xt) (rowS (g := w.heap.size) (i := 3) (u := .int .u64 xs) (rowS (g := w.heap.size) (i := 2) (u := .int .i64 xb) (rowS (g := w.heap.size) (i := 1) (u := .int .i64 xa) (rowS (g := w.heap.size) (i := 0) (u := .int .i64 xl) rKb nKb) nKb) nKb) nKb) nKb) nKb) nKb)
          have R3 := (rowS (g := w.heap.size) (i := 6) (u := .int .i64 xn) (rowS (g := w.heap.size) (i := 5) (u := .slice a3 lX q3) (rowS (g := w.heap.size) (i := 4) (u := .int .u64 xt) (rowS (g := w.heap.size) (i := 3) (u := .int .u64 xs) (rowS (g := w.heap.size) (i := 2) (u := .int .i64 xb) (rowS (g := w.heap.size) (i := 1) (u := .int .i64 xa) (rowS (g := w.heap.size) (i := 0) (u := .int .i64 xl) rK nK) nK) nK) nK) nK) nK) nK)
          have Z4 := (((((((Z3.set (g' := w.heap.size) (i := 0) (x := .int .i64 xl) (by omega)).set (g' := w.heap.size) (i := 1) (x := .int .i64 xa) (by omega)).set (g' := w.heap.size) (i := 2) (x := .int .i64 xb) (by omega)).set (g' := w.heap.size) (i := 3) (x := .int .u64 xs) (by omega)).set (g' := w.heap.size) (i := 4) (x := .int .u64 xt) (by omega)).set (g' := w.heap.size) (i := 5) (x := .slice a3 lX q3) (by omega)).set (g' := w.heap.size) (i := 6) (x := .int .i64 xn) (by omega))
          have X4 := X3.putAll (.int .i64 xl) (.int .i64 xa) (.int .i64 xb) (.int .u64 xs) (.int .u64 xt) (.slice a3 lX q3) (.int .i64 xn)
          have hB4 := Below.set7 hbw3 (Nat.le_refl _) (.int .i64 xl) (.int .i64 xa) (.int .i64 xb) (.int .u64 xs) (.int .u64 xt) (.slice a3 lX q3) (.int .i64 xn)
          have z4 : (((((((w3.setCell ⟨w.heap.size, 0, none⟩ (.int .i64 xl)).setCell ⟨w.heap.size, 1, none⟩ (.int .i64 xa)).setCell ⟨w.heap.size, 2, none⟩ (.int .i64 xb)).setCell ⟨w.heap.size, 3, none⟩ (.int .u64 xs)).setCell ⟨w.heap.size, 4, none⟩ (.int .u64 xt)).setCell ⟨w.heap.size, 5, none⟩ (.slice a3 lX q3)).setCell ⟨w.heap.size, 6, none⟩ (.int .i64 xn)).heap.size = w3.heap.size := by simp only [World.size_setCell]
          have nn : w.heap.size ≠ K1 := by omega
          have nn2 : K1 ≠ w.heap.size := by omega
          go_wp2_with (at_builtin; refine appN rfl _ _ 34 rfl (w.heap.size + 2) 40 i0 (.int .u32 0) 4 Try.underlying34 hii hz0 hz1 hz2 rfl .u32 _ _ O4 a4 lL q4 L R4.rd hlL rfl rfl (by rw [z4]; omega) (by omega) (by omega) ?_; intro v' w5 hown hgr hb5)
          go_roundw
          case rel =>
            obtain ⟨pc1, pc2', pc3⟩ := HB.out
            have hlX : X.length = lX := HL.out.1
            refine ⟨k + 1, by omega, by go_num, hid pc1, ⟨⟨xl, ⟨xa, xb, xs, xt⟩, X, xn⟩, a3, q3, pc2'.symm, ?_, ?_, fun _ x hx => ?_⟩, Z4.below hb5 (by omega), by rw [pc3]; exact hown, hB4.trans (hb5.mono (by omega)), by have := hb5.size; rw [z4] at this; omega⟩
            · simp only; rw [hlX]; exact X4.below hb5 (by omega)
            · simp only; rw [hlX]; exact RowIn.grown R3 hgr (fun _ x hx q => by have := World.ownsRow.lt ho x.block q; have := FK x hx; omega)
            · exact .inr (by have := FK x hx; omega)
          case measure => simp [intOf]; omega
        · have f1 : (E = 0) = False := eq_false hE0
          have f2 : (E != 0) = true := bne_iff_ne.2 hE0
          have q0 := hid (HA.out.1 hE0)
          clear hSl hsl
          go_wp2_with fail
          refine bodyPost_ret_by (v := .tuple #[.agg #[.int .i64 0, .int .i64 0, .int .i64 0, .int .u64 0, .int .u64 0, .slice none 0 0, .int .i64 0], .slice none 0 0, .int .i64 E]) (by rw [results_ctt rfl]; go_simp) rfl ?_
          have q1 : reR s ps.flatten = zR ∧ reV s ps.flatten = [] := by rw [reR, reV, hEE, q0.out, if_neg hE0, if_neg hE0]; exact ⟨rfl, rfl⟩
          rw [hEE, q0.out, q1.1, q1.2]
          exact ⟨none, 0, none, 0, rfl, RowIn.nil, RowIn.nil, Below.set7 hbw3 (by omega) _ _ _ _ _ _ _, fun h => absurd rfl h, Fresh.none⟩
    · obtain rfl : k = ps.length := by omega
      rw [List.take_length] at hE eS ho
      have q0 := hE.out
      have q1 : reR s ps.flatten = S ∧ reV s ps.flatten = ruL s ps.flatten := by rw [reR, reV, hEE, q0, if_pos rfl, if_pos rfl]; exact ⟨eS.symm, rfl⟩
      have hU := (ru_all hi hok hbb (by omega)).2.2.2.2.1
      obtain ⟨av, cv, rfl, hrow, hneU, hfrU⟩ := ownRow2 ho (g := w.heap.size + 1) (M09.okV_wf hU) (by omega)
      have HQ := hid (And.intro q0 q1)
      clear q0 q1 eS hE ho hCl hbC
      obtain ⟨sl, ⟨sa, sb, ss, st⟩, sx, sn⟩ := S
      simp only at X1 hrS hneS
      obtain ⟨s0, s1, s2, s3, s4, s5, s6, sf0, sf1, sf2, sf3, sf4, sf5, sf6⟩ := id X1
      obtain ⟨z0, z1, z2, z3, z4, z5, z6, zf0, zf1, zf2, zf3, zf4, zf5, zf6⟩ := id Z1
      have l3 : w.heap.size < wr.heap.size := by omega
      have l31 : w.heap.size + 1 < wr.heap.size := by omega
      obtain ⟨lS, hlS⟩ : ∃ l, sx.length = l := ⟨_, rfl⟩
      rw [hlS] at hrS s5
      have HL := hid hlS
      clear hlS X1 Z1
      go_wp2_with fail
      refine bodyPost_ret_by (v := .tuple #[.agg #[.int .i64 sl, .int .i64 sa, .int .i64 sb, .int .u64 ss, .int .u64 st, .slice a' lS q', .int .i64 sn], .slice av (ruL s ps.flatten).length cv, .int .i64 0]) (by rw [results_ctt rfl]; go_simp) rfl ?_
      obtain ⟨q0, q1, q2⟩ := HQ.out
      rw [hEE, q0, q1, q2]
      simp only
      rw [HL.out]
      exact ⟨a', q', av, cv, rfl, row7K hrS (fun h x hx => by rcases hneS h x hx with q | q; (have := Co.row_lt hr q.1 x q.2; omega); omega) _ _ _ _ _ _ _, row7K hrow hneU _ _ _ _ _ _ _, Below.set7 hb (by omega) _ _ _ _ _ _ _, fun h x hx => by rcases hneS h x hx with q | q; exact .inl q; exact .inr (by omega), fun x hx => by have := hfrU x hx; omega⟩
end Go.Proofs.Ytmnhepcnbdbhoaa.Wk
