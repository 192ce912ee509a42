/-
  Contracts of the writer's methods qual, fun.
-/
import Derived.Test.YtcdacmbcecjliaaDoorTrI
namespace Go.Proofs.YtcdacmbcecjliaaDoor
open Go.RowKit
set_option linter.unusedVariables false
set_option maxRecDepth 100000

set_option maxHeartbeats 8000000 in
theorem qual_any (w0 : World) (ht : Tabs w0) (nm : Bs) (hn : nm.length ≤ 5) (ps : List (Pm × Bs × Bs)) (hl : ps.length ≤ 3) (ko : Option Addr) (kc : Nat) (hps : PsAt w0 ko ps) (r : X) (t : T) (hT : Tr w0 (fun _ => True) 4 r t) (hO : Ok 4 t) (b : Nat) (l : Bs) (w : World) (hbw : Below w0.heap.size w0 w) (hwr : Wr w0.heap.size b l w) (hlen : l.length ≤ 340000) :
    Calls Tryd.prog 26 #[.pointer (some ⟨b, 0, none⟩), .agg #[.string ⟨nm.toArray⟩, .slice ko ps.length kc, .int .i64 r.k, .string r.nm, .string r.ot, .bool r.b, .slice r.ao r.n r.c, .slice r.ko r.kn r.kc, .int .i64 r.ln, .int .i64 r.cl, .int .i64 0, .int .i64 0]] w (WrPost w0.heap.size b (l ++ ([113, 117, 97, 108, 105, 102, 32] ++ hdT nm ps ++ tx t ++ [10])) w) := by
  obtain ⟨rk, rnm, rot, rb, rao, rn, rc, rko, rkn, rkc, rln, rcl⟩ := r
  simp only
  have HTB := Lib.hid ht
  have HPS := Lib.hid hps
  have HT := Lib.hid hT
  have HO := Lib.hid hO
  have hlx := (len_all 4 t hO).1
  have hLL : LL 4 = 30720 := rfl
  rw [hLL] at hlx
  have hhd := hdT_len hps hl hn
  clear ht hps hT hO
  obtain ⟨k3, hk3⟩ : ∃ k3, k3 = w.heap.size := ⟨_, rfl⟩
  obtain ⟨w9, hw9⟩ : ∃ w9, w9 = w.alloc (.cells #[.string ⟨nm.toArray⟩, .slice ko ps.length kc, .int .i64 rk, .string rnm, .string rot, .bool rb, .slice rao rn rc, .slice rko rkn rkc, .int .i64 rln, .int .i64 rcl, .int .i64 0, .int .i64 0] 45) := ⟨_, rfl⟩
  have hba : Below w.heap.size w w9 := by rw [hw9]; exact (Below.refl _ _).alloc (Nat.le_refl _) _
  have hx9 : w9.heap[k3]? = some (.cells #[.string ⟨nm.toArray⟩, .slice ko ps.length kc, .int .i64 rk, .string rnm, .string rot, .bool rb, .slice rao rn rc, .slice rko rkn rkc, .int .i64 rln, .int .i64 rcl, .int .i64 0, .int .i64 0] 45 (0, 0)) := by rw [hw9, hk3]; exact made_at w _ _ rfl
  have HX9 := Lib.hid hx9
  have hsB := hbw.size
  have H9 := Lib.hid (hwr.below hba)
  have HB9 := Lib.hid (hba.mono hsB)
  have HF9 := Lib.hid (fr_below hba)
  have HBW := Lib.hid hbw
  have hs9 := hba.size
  clear hba hx9 hbw hwr
  go_enter Tryd.func26, Tryd.ntmps26
  go_upto_region 1 with fail
  rw [← hw9, ← hk3]
  clear hw9 hk3
  go_wp2_with fail
  refine (wr_str w0.heap.size b l [113, 117, 97, 108, 105, 102, 32] w9 H9.out (by simp only [List.length_cons, List.length_nil]; omega) (by omega)).mono ?_
  rintro e w10 ⟨⟨v10, rfl⟩, hw, hb, hfr⟩
  have hs10 := hb.size
  have HX10 := Lib.hid (hfr k3 _ _ _ HX9.out (by decide) (by decide))
  have H10 := Lib.hid hw
  have HB10 := Lib.hid (HB9.out.trans hb)
  have HF10 := Lib.hid (HF9.out.trans hfr)
  clear hw hb hfr
  have x0 := cell_at (v := .string ⟨nm.toArray⟩) HX10.out 0 rfl
  have x1 := cell_at (v := .slice ko ps.length kc) HX10.out 1 rfl
  go_wp2_with fail
  refine (head_any w0 HTB.out nm hn ps hl ko kc HPS.out b _ w10 (HBW.out.trans HB10.out) H10.out (by simp only [List.length_append, List.length_cons, List.length_nil]; omega)).mono ?_
  rintro e w11 ⟨⟨v11, rfl⟩, hw, hb, hfr⟩
  have hs11 := hb.size
  have HX11 := Lib.hid (hfr k3 _ _ _ HX10.out (by decide) (by decide))
  have H11 := Lib.hid hw
  have HB11 := Lib.hid (HB10.out.trans hb)
  have HF11 := Lib.hid (HF10.out.trans hfr)
  clear hw hb hfr
  clear x0 x1
  have x2 := cell_at (v := .int .i64 rk) HX11.out 2 rfl
  have x3 := cell_at (v := .string rnm) HX11.out 3 rfl
  have x4 := cell_at (v := .string rot) HX11.out 4 rfl
  have x5 := cell_at (v := .bool rb) HX11.out 5 rfl
  have x6 := cell_at (v := .slice rao rn rc) HX11.out 6 rfl
  have x7 := cell_at (v := .slice rko rkn rkc) HX11.out 7 rfl
  have x8 := cell_at (v := .int .i64 rln) HX11.out 8 rfl
  have x9 := cell_at (v := .int .i64 rcl) HX11.out 9 rfl
  go_wp2_with fail
  refine (valid_any w0 HTB.out 4 (by decide) b _ ⟨rk, rnm, rot, rb, rao, rn, rc, rko, rkn, rkc, rln, rcl⟩ t (fun _ => True) w11 HT.out HO.out (HBW.out.trans HB11.out) H11.out (by rw [hLL]; simp only [List.length_append, List.length_cons, List.length_nil]; omega)).mono ?_
  rintro e w12 ⟨⟨v12, rfl⟩, hw, hb, hfr⟩
  have hs12 := hb.size
  have H12 := Lib.hid hw
  have HB12 := Lib.hid (HB11.out.trans hb)
  have HF12 := Lib.hid (HF11.out.trans hfr)
  clear hw hb hfr
  clear x2 x3 x4 x5 x6 x7 x8 x9
  go_wp2_with fail
  refine (wr_byte w0.heap.size b _ 10 _ rfl w12 H12.out (by simp only [List.length_append, List.length_cons, List.length_nil]; omega) (by omega)).mono ?_
  rintro e w13 ⟨⟨v13, rfl⟩, hw, hb, hfr⟩
  have hs13 := hb.size
  have H13 := Lib.hid hw
  have HB13 := Lib.hid (HB12.out.trans hb)
  have HF13 := Lib.hid (HF12.out.trans hfr)
  clear hw hb hfr
  go_wp2_with fail
  go_end0
  exact ⟨⟨_, rfl⟩, by have h := H13.out; simp only [List.append_assoc] at h ⊢; exact h, HB13.out, HF13.out⟩

set_option maxHeartbeats 8000000 in
theorem fun_any (w0 : World) (ht : Tabs w0) (nm : Bs) (hn : nm.length ≤ 5) (ps : List (Pm × Bs × Bs)) (hl : ps.length ≤ 3) (ko : Option Addr) (kc : Nat) (hps : PsAt w0 ko ps) (p : Pm) (rq bt : Bs) (hp : PmOk w0 p rq bt) (r : X) (t : T) (hT : Tr w0 (fun _ => True) 4 r t) (hO : Ok 4 t) (b : Nat) (l : Bs) (w : World) (hbw : Below w0.heap.size w0 w) (hwr : Wr w0.heap.size b l w) (hlen : l.length ≤ 340000) :
    Calls Tryd.prog 27 #[.pointer (some ⟨b, 0, none⟩), .agg #[.string ⟨nm.toArray⟩, .slice ko ps.length kc, .string p.nm, .int .i64 p.bs, .bool p.kn, .int .i64 p.rf.k, .string p.rf.nm, .string p.rf.ot, .bool p.rf.b, .slice p.rf.ao p.rf.n p.rf.c, .slice p.rf.ko p.rf.kn p.rf.kc, .int .i64 p.rf.ln, .int .i64 p.rf.cl, .int .i64 p.ln, .int .i64 p.cl, .int .i64 r.k, .string r.nm, .string r.ot, .bool r.b, .slice r.ao r.n r.c, .slice r.ko r.kn r.kc, .int .i64 r.ln, .int .i64 r.cl, .int .i64 0, .int .i64 0]] w (WrPost w0.heap.size b (l ++ ([102, 117, 110, 32] ++ hdT nm ps ++ bt ++ [32, 61, 32] ++ tx t ++ [10])) w) := by
  obtain ⟨rk, rnm, rot, rb, rao, rn, rc, rko, rkn, rkc, rln, rcl⟩ := r
  have hbl := hp.len
  have HP := Lib.hid hp
  obtain ⟨rsnm, rsbs, rskn, ⟨sk, snm, sot, sb, sao, sn, sc, sko, skn, skc, sln, scl⟩, rsln, rscl⟩ := p
  simp only
  have HTB := Lib.hid ht
  have HPS := Lib.hid hps
  have HT := Lib.hid hT
  have HO := Lib.hid hO
  have hlx := (len_all 4 t hO).1
  have hLL : LL 4 = 30720 := rfl
  rw [hLL] at hlx
  have hhd := hdT_len hps hl hn
  clear ht hps hT hO hp
  obtain ⟨k3, hk3⟩ : ∃ k3, k3 = w.heap.size := ⟨_, rfl⟩
  obtain ⟨w9, hw9⟩ : ∃ w9, w9 = w.alloc (.cells #[.string ⟨nm.toArray⟩, .slice ko ps.length kc, .string rsnm, .int .i64 rsbs, .bool rskn, .int .i64 sk, .string snm, .string sot, .bool sb, .slice sao sn sc, .slice sko skn skc, .int .i64 sln, .int .i64 scl, .int .i64 rsln, .int .i64 rscl, .int .i64 rk, .string rnm, .string rot, .bool rb, .slice rao rn rc, .slice rko rkn rkc, .int .i64 rln, .int .i64 rcl, .int .i64 0, .int .i64 0] 48) := ⟨_, rfl⟩
  have hba : Below w.heap.size w w9 := by rw [hw9]; exact (Below.refl _ _).alloc (Nat.le_refl _) _
  have hx9 : w9.heap[k3]? = some (.cells #[.string ⟨nm.toArray⟩, .slice ko ps.length kc, .string rsnm, .int .i64 rsbs, .bool rskn, .int .i64 sk, .string snm, .string sot, .bool sb, .slice sao sn sc, .slice sko skn skc, .int .i64 sln, .int .i64 scl, .int .i64 rsln, .int .i64 rscl, .int .i64 rk, .string rnm, .string rot, .bool rb, .slice rao rn rc, .slice rko rkn rkc, .int .i64 rln, .int .i64 rcl, .int .i64 0, .int .i64 0] 48 (0, 0)) := by rw [hw9, hk3]; exact made_at w _ _ rfl
  have HX9 := Lib.hid hx9
  have hsB := hbw.size
  have H9 := Lib.hid (hwr.below hba)
  have HB9 := Lib.hid (hba.mono hsB)
  have HF9 := Lib.hid (fr_below hba)
  have HBW := Lib.hid hbw
  have hs9 := hba.size
  clear hba hx9 hbw hwr
  go_enter Tryd.func27, Tryd.ntmps27
  go_upto_region 1 with fail
  rw [← hw9, ← hk3]
  clear hw9 hk3
  go_wp2_with fail
  refine (wr_str w0.heap.size b l [102, 117, 110, 32] w9 H9.out (by simp only [List.length_cons, List.length_nil]; omega) (by omega)).mono ?_
  rintro e w10 ⟨⟨v10, rfl⟩, hw, hb, hfr⟩
  have hs10 := hb.size
  have HX10 := Lib.hid (hfr k3 _ _ _ HX9.out (by decide) (by decide))
  have H10 := Lib.hid hw
  have HB10 := Lib.hid (HB9.out.trans hb)
  have HF10 := Lib.hid (HF9.out.trans hfr)
  clear hw hb hfr
  have x0 := cell_at (v := .string ⟨nm.toArray⟩) HX10.out 0 rfl
  have x1 := cell_at (v := .slice ko ps.length kc) HX10.out 1 rfl
  go_wp2_with fail
  refine (head_any w0 HTB.out nm hn ps hl ko kc HPS.out b _ w10 (HBW.out.trans HB10.out) H10.out (by simp only [List.length_append, List.length_cons, List.length_nil]; omega)).mono ?_
  rintro e w11 ⟨⟨v11, rfl⟩, hw, hb, hfr⟩
  have hs11 := hb.size
  have HX11 := Lib.hid (hfr k3 _ _ _ HX10.out (by decide) (by decide))
  have H11 := Lib.hid hw
  have HB11 := Lib.hid (HB10.out.trans hb)
  have HF11 := Lib.hid (HF10.out.trans hfr)
  clear hw hb hfr
  clear x0 x1
  have x2 := cell_at (v := .string rsnm) HX11.out 2 rfl
  have x3 := cell_at (v := .int .i64 rsbs) HX11.out 3 rfl
  have x4 := cell_at (v := .bool rskn) HX11.out 4 rfl
  have x5 := cell_at (v := .int .i64 sk) HX11.out 5 rfl
  have x6 := cell_at (v := .string snm) HX11.out 6 rfl
  have x7 := cell_at (v := .string sot) HX11.out 7 rfl
  have x8 := cell_at (v := .bool sb) HX11.out 8 rfl
  have x9 := cell_at (v := .slice sao sn sc) HX11.out 9 rfl
  have x10 := cell_at (v := .slice sko skn skc) HX11.out 10 rfl
  have x11 := cell_at (v := .int .i64 sln) HX11.out 11 rfl
  have x12 := cell_at (v := .int .i64 scl) HX11.out 12 rfl
  have x13 := cell_at (v := .int .i64 rsln) HX11.out 13 rfl
  have x14 := cell_at (v := .int .i64 rscl) HX11.out 14 rfl
  go_wp2_with fail
  refine (base_any w0 HTB.out ⟨rsnm, rsbs, rskn, ⟨sk, snm, sot, sb, sao, sn, sc, sko, skn, skc, sln, scl⟩, rsln, rscl⟩ rq bt HP.out b _ w11 (HBW.out.trans HB11.out) H11.out (by simp only [List.length_append, List.length_cons, List.length_nil]; omega)).mono ?_
  rintro e w12 ⟨⟨v12, rfl⟩, hw, hb, hfr⟩
  have hs12 := hb.size
  have HX12 := Lib.hid (hfr k3 _ _ _ HX11.out (by decide) (by decide))
  have H12 := Lib.hid hw
  have HB12 := Lib.hid (HB11.out.trans hb)
  have HF12 := Lib.hid (HF11.out.trans hfr)
  clear hw hb hfr
  clear x2 x3 x4 x5 x6 x7 x8 x9 x10 x11 x12 x13 x14
  go_wp2_with fail
  refine (wr_str w0.heap.size b _ [32, 61, 32] w12 H12.out (by simp only [List.length_append, List.length_cons, List.length_nil]; omega) (by omega)).mono ?_
  rintro e w13 ⟨⟨v13, rfl⟩, hw, hb, hfr⟩
  have hs13 := hb.size
  have HX13 := Lib.hid (hfr k3 _ _ _ HX12.out (by decide) (by decide))
  have H13 := Lib.hid hw
  have HB13 := Lib.hid (HB12.out.trans hb)
  have HF13 := Lib.hid (HF12.out.trans hfr)
  clear hw hb hfr
  have x15 := cell_at (v := .int .i64 rk) HX13.out 15 rfl
  have x16 := cell_at (v := .string rnm) HX13.out 16 rfl
  have x17 := cell_at (v := .string rot) HX13.out 17 rfl
  have x18 := cell_at (v := .bool rb) HX13.out 18 rfl
  have x19 := cell_at (v := .slice rao rn rc) HX13.out 19 rfl
  have x20 := cell_at (v := .slice rko rkn rkc) HX13.out 20 rfl
  have x21 := cell_at (v := .int .i64 rln) HX13.out 21 rfl
  have x22 := cell_at (v := .int .i64 rcl) HX13.out 22 rfl
  go_wp2_with fail
  refine (valid_any w0 HTB.out 4 (by decide) b _ ⟨rk, rnm, rot, rb, rao, rn, rc, rko, rkn, rkc, rln, rcl⟩ t (fun _ => True) w13 HT.out HO.out (HBW.out.trans HB13.out) H13.out (by rw [hLL]; simp only [List.length_append, List.length_cons, List.length_nil]; omega)).mono ?_
  rintro e w14 ⟨⟨v14, rfl⟩, hw, hb, hfr⟩
  have hs14 := hb.size
  have H14 := Lib.hid hw
  have HB14 := Lib.hid (HB13.out.trans hb)
  have HF14 := Lib.hid (HF13.out.trans hfr)
  clear hw hb hfr
  clear x15 x16 x17 x18 x19 x20 x21 x22
  go_wp2_with fail
  refine (wr_byte w0.heap.size b _ 10 _ rfl w14 H14.out (by simp only [List.length_append, List.length_cons, List.length_nil]; omega) (by omega)).mono ?_
  rintro e w15 ⟨⟨v15, rfl⟩, hw, hb, hfr⟩
  have hs15 := hb.size
  have H15 := Lib.hid hw
  have HB15 := Lib.hid (HB14.out.trans hb)
  have HF15 := Lib.hid (HF14.out.trans hfr)
  clear hw hb hfr
  go_wp2_with fail
  go_end0
  exact ⟨⟨_, rfl⟩, by have h := H15.out; simp only [List.append_assoc] at h ⊢; exact h, HB15.out, HF15.out⟩

end Go.Proofs.YtcdacmbcecjliaaDoor
