/-
  The reference's Lex: the same tokens, or the same error at the same place, as the mathematics says.
-/
import Derived.Test.YtnjdbljdaghdmaaDoorLxRefN
namespace Go.Proofs.YtnjdbljdaghdmaaDoor
open Go.RowKit
set_option maxRecDepth 100000

theorem extract_mid (l : Bs) (j n : Nat) : (⟨l.toArray⟩ : ByteArray).extract j (j + n) = ⟨((l.drop j).take n).toArray⟩ := by
  apply ByteArray.ext
  simp only [ByteArray.data_extract, List.extract_toArray]
  rw [List.extract_eq_take_drop]
  have : j + n - j = n := by omega
  rw [this]
theorem Tk.kept {w w' : World} {base t : Nat} {e : TypeId} {v : Value} {ts : List Tok} (h : Tk w base e v ts) (hg : w.grownBy w' (some t)) (ht : ∀ j, v.ownBlock = some j → j ≠ t) : Tk w' base e v ts :=
  World.ownsRow.kept h hg (by cases hv : v.ownBlock with | none => exact .inl rfl | some j => exact .inr (fun e => by injection e with e; exact ht j hv e))
theorem infoT : (Tryd.prog.info? 32).map (fun i => (i.zero, i.size, i.bytes)) = some (some (.agg #[.int .i64 0, .string ⟨#[]⟩, .int .i64 0, .int .i64 0]), 4, 40) := by kernel_rfl

theorem five_35 {c : UInt8} (h : c = 35) : ((c.toNat : Int) == 35) = true ∧ ((c.toNat : Int) == 32) = false ∧ ((c.toNat : Int) == 9) = false ∧ ((c.toNat : Int) == 10) = false ∧ ((c.toNat : Int) == 13) = false := by
  subst h; exact ⟨rfl, rfl, rfl, rfl, rfl⟩
theorem five_32 {c : UInt8} (h : c = 32) : ((c.toNat : Int) == 35) = false ∧ ((c.toNat : Int) == 32) = true ∧ ((c.toNat : Int) == 9) = false ∧ ((c.toNat : Int) == 10) = false ∧ ((c.toNat : Int) == 13) = false := by
  subst h; exact ⟨rfl, rfl, rfl, rfl, rfl⟩
theorem five_9 {c : UInt8} (h : c = 9) : ((c.toNat : Int) == 35) = false ∧ ((c.toNat : Int) == 32) = false ∧ ((c.toNat : Int) == 9) = true ∧ ((c.toNat : Int) == 10) = false ∧ ((c.toNat : Int) == 13) = false := by
  subst h; exact ⟨rfl, rfl, rfl, rfl, rfl⟩
theorem five_10 {c : UInt8} (h : c = 10) : ((c.toNat : Int) == 35) = false ∧ ((c.toNat : Int) == 32) = false ∧ ((c.toNat : Int) == 9) = false ∧ ((c.toNat : Int) == 10) = true ∧ ((c.toNat : Int) == 13) = false := by
  subst h; exact ⟨rfl, rfl, rfl, rfl, rfl⟩
theorem five_13 {c : UInt8} (h : c = 13) : ((c.toNat : Int) == 35) = false ∧ ((c.toNat : Int) == 32) = false ∧ ((c.toNat : Int) == 9) = false ∧ ((c.toNat : Int) == 10) = false ∧ ((c.toNat : Int) == 13) = true := by
  subst h; exact ⟨rfl, rfl, rfl, rfl, rfl⟩
theorem five_no {c : UInt8} (h : blk c = false) (h2 : c ≠ 35) : ((c.toNat : Int) == 35) = false ∧ ((c.toNat : Int) == 32) = false ∧ ((c.toNat : Int) == 9) = false ∧ ((c.toNat : Int) == 10) = false ∧ ((c.toNat : Int) == 13) = false := by
  obtain ⟨a, b, d, e⟩ := blk_not h
  exact ⟨byte_no 35 h2, a, b, d, e⟩
theorem gap_ways (c : UInt8) : c = 35 ∨ c = 10 ∨ c = 32 ∨ c = 9 ∨ c = 13 ∨ (blk c = false ∧ c ≠ 35) := by
  by_cases h : c = 35
  · exact .inl h
  · cases hb : blk c with
    | false => exact .inr (.inr (.inr (.inr (.inr ⟨rfl, h⟩))))
    | true =>
      have : c = 32 ∨ c = 9 ∨ c = 10 ∨ c = 13 := by simpa [blk, or_assoc] using hb
      rcases this with e | e | e | e <;> simp [e]

/-- What the reference's Lex gives. -/
def RefPost (l : Bs) (w0 : World) (e : Ending) (w' : World) : Prop :=
  ∃ v, e = .returned (.tuple #[v, .int .i64 ((lexS l (1, 1)).2 : Nat)]) ∧ Tk w' w0.heap.size 32 v (lexS l (1, 1)).1 ∧ Below w0.heap.size w0 w'

/-- What holds at the head of its loop. -/
def RefInv (l : Bs) (w0 : World) (out li st i : Value) (wr : World) : Prop :=
  ∃ (ts : List Tok) (j s : Nat), i = .int .i64 j ∧ j ≤ l.length ∧ li = .int .i64 ((adv (1, 1) (l.take j)).1 : Nat) ∧ st = .int .i64 s ∧ (adv (1, 1) (l.take j)).2 + s = j + 1 ∧ ts.length ≤ j ∧
    Tk wr w0.heap.size 32 out ts ∧ ts ++ (lexS (l.drop j) (adv (1, 1) (l.take j))).1 = (lexS l (1, 1)).1 ∧ (lexS (l.drop j) (adv (1, 1) (l.take j))).2 = (lexS l (1, 1)).2 ∧ Below w0.heap.size w0 wr

/-- What holds in its loop over blanks: i the place where they begin. -/
def GapInv (l : Bs) (i : Nat) (li st jv b : Value) : Prop :=
  ∃ (j s : Nat) (r : Bool), jv = .int .i64 j ∧ b = .bool r ∧ i ≤ j ∧ j ≤ l.length ∧ li = .int .i64 ((adv (1, 1) (l.take j)).1 : Nat) ∧ st = .int .i64 s ∧ (adv (1, 1) (l.take j)).2 + s = j + 1 ∧ gapL false (l.drop i) = (j - i) + gapL r (l.drop j)

set_option maxHeartbeats 4000000 in
theorem ref_any (l : Bs) (w0 : World) (hl : l.length ≤ 20000) :
    Calls Tryd.prog 7 #[.string ⟨l.toArray⟩] w0 (RefPost l w0) := by
  have hsz : (⟨l.toArray⟩ : ByteArray).size = l.length := rfl
  have hd : decide ((20000 : Int) < (l.length : Int)) = false := by simp; omega
  go_enter Tryd.func7, Tryd.ntmps7
  go_wp2_with fail
  go_loopw [4, 5, 6, 7] (fun out li st i wr => RefInv l w0 out li st i wr) (fun _ _ _ i _ => l.length - (intOf i).toNat)
  case atStart => exact ⟨[], 0, 0, rfl, Nat.zero_le _, rfl, rfl, rfl, Nat.le_refl _, Tk.nil _ _ _, rfl, rfl, Below.refl _ _⟩
  case round =>
    obtain ⟨ts, i, s, rfl, hi, rfl, rfl, hs, htl, hT, he1, he2, hb⟩ := hrel
    have HT := Lib.hid hT
    have HE1 := Lib.hid he1
    have HE2 := Lib.hid he2
    have HBw := Lib.hid hb
    have HS := Lib.hid hs
    clear hT he1 he2 hb hs
    go_wp2_with fail
    obtain ⟨W, hWr⟩ : ∃ W, W = wr := ⟨_, rfl⟩
    rw [← hWr] at HT HBw ⊢
    clear hWr
    go_loopw [5, 6, 7, 8] (fun li st jv b wi => GapInv l i li st jv b ∧ wi = W) (fun _ _ jv _ _ => l.length - (intOf jv).toNat)
    case atStart => exact ⟨⟨i, s, false, rfl, rfl, Nat.le_refl _, hi, rfl, rfl, HS.out, by simp⟩, rfl⟩
    case round =>
      clear HS
      obtain ⟨⟨j, s, r, rfl, rfl, j1, j2, rfl, rfl, hs, hgp⟩, hx⟩ := hrel
      obtain rfl := hx.symm
      clear hx
      have HGP := Lib.hid hgp
      obtain ⟨q, hq⟩ : ∃ q, q = adv (1, 1) (l.take j) := ⟨_, rfl⟩
      have hqb := adv_bd (1, 1) (l.take j)
      have hlj : (l.take j).length ≤ 20000 := by rw [List.length_take]; omega
      rw [← hq] at hs hqb ⊢
      simp only at hqb
      have hq1 : q.1 ≤ 100000 := by omega
      have hq2 : q.2 ≤ 100000 := by omega
      have hsj : s ≤ j + 1 := by omega
      have HQ := Lib.hid hq
      have HS := Lib.hid hs
      clear hgp hq hqb hlj hs
      by_cases hlt : j < l.length
      · have HST : Hid (adv (1, 1) (l.take (j + 1)) = stepP q l[j]) := Lib.hid (by rw [adv_take_succ _ _ _ hlt, ← HQ.out])
        have hs := HS.out
        cases r
        · rcases gap_ways (l[j]'hlt) with h | h | h | h | h | ⟨h, h'⟩
          · obtain ⟨x35, x32, x9, x10, x13⟩ := five_35 (c := (⟨l.toArray⟩ : ByteArray)[j]'hlt) h
            have HG1 := Lib.hid (gap_hash hlt h)
            have HSP := Lib.hid (stepP_no (p := q) (show l[j] ≠ 10 by rw [h]; decide))
            clear h
            go_wp2
            go_roundw
            case rel => exact ⟨⟨j + 1, s, true, by go_num, rfl, by omega, by omega, by rw [HST.out, HSP.out] <;> go_num, rfl, by rw [HST.out, HSP.out]; simp only; omega, by rw [HGP.out, HG1.out]; omega⟩, by trivial⟩
            case measure => simp [intOf]; omega
          · obtain ⟨x35, x32, x9, x10, x13⟩ := five_10 (c := (⟨l.toArray⟩ : ByteArray)[j]'hlt) h
            have HG1 := Lib.hid (gap_blank hlt (show blk l[j] = true by rw [h]; rfl))
            have HSP := Lib.hid (stepP_nl (p := q) h)
            clear h
            go_wp2
            go_roundw
            case rel => exact ⟨⟨j + 1, j + 1, false, by go_num, rfl, by omega, by omega, by rw [HST.out, HSP.out] <;> go_num, by go_num, by rw [HST.out, HSP.out]; simp only; omega, by rw [HGP.out, HG1.out]; omega⟩, by trivial⟩
            case measure => simp [intOf]; omega
          · obtain ⟨x35, x32, x9, x10, x13⟩ := five_32 (c := (⟨l.toArray⟩ : ByteArray)[j]'hlt) h
            have HG1 := Lib.hid (gap_blank hlt (show blk l[j] = true by rw [h]; rfl))
            have HSP := Lib.hid (stepP_no (p := q) (show l[j] ≠ 10 by rw [h]; decide))
            clear h
            go_wp2
            go_roundw
            case rel => exact ⟨⟨j + 1, s, false, by go_num, rfl, by omega, by omega, by rw [HST.out, HSP.out] <;> go_num, rfl, by rw [HST.out, HSP.out]; simp only; omega, by rw [HGP.out, HG1.out]; omega⟩, by trivial⟩
            case measure => simp [intOf]; omega
          · obtain ⟨x35, x32, x9, x10, x13⟩ := five_9 (c := (⟨l.toArray⟩ : ByteArray)[j]'hlt) h
            have HG1 := Lib.hid (gap_blank hlt (show blk l[j] = true by rw [h]; rfl))
            have HSP := Lib.hid (stepP_no (p := q) (show l[j] ≠ 10 by rw [h]; decide))
            clear h
            go_wp2
            go_roundw
            case rel => exact ⟨⟨j + 1, s, false, by go_num, rfl, by omega, by omega, by rw [HST.out, HSP.out] <;> go_num, rfl, by rw [HST.out, HSP.out]; simp only; omega, by rw [HGP.out, HG1.out]; omega⟩, by trivial⟩
            case measure => simp [intOf]; omega
          · obtain ⟨x35, x32, x9, x10, x13⟩ := five_13 (c := (⟨l.toArray⟩ : ByteArray)[j]'hlt) h
            have HG1 := Lib.hid (gap_blank hlt (show blk l[j] = true by rw [h]; rfl))
            have HSP := Lib.hid (stepP_no (p := q) (show l[j] ≠ 10 by rw [h]; decide))
            clear h
            go_wp2
            go_roundw
            case rel => exact ⟨⟨j + 1, s, false, by go_num, rfl, by omega, by omega, by rw [HST.out, HSP.out] <;> go_num, rfl, by rw [HST.out, HSP.out]; simp only; omega, by rw [HGP.out, HG1.out]; omega⟩, by trivial⟩
            case measure => simp [intOf]; omega
          · obtain ⟨x35, x32, x9, x10, x13⟩ := five_no (c := (⟨l.toArray⟩ : ByteArray)[j]'hlt) h h'
            have HG1 := Lib.hid (gap_stop hlt h h')
            clear h h'
            have hje : ((j : Int) == (l.length : Int)) = false := by rw [beq_eq_false_iff_ne]; omega
            have hcol : ((j : Int) - (s : Int) + 1) = (q.2 : Int) := by omega
            have hg : gapL false (l.drop i) = j - i := by rw [HGP.out, HG1.out]; rfl
            have hdd : (l.drop i).drop (gapL false (l.drop i)) = l.drop j := by rw [hg, List.drop_drop]; congr 1; omega
            have hqq : adv (adv (1, 1) (l.take i)) ((l.drop i).take (gapL false (l.drop i))) = q := by
              rw [hg, ← adv_app, ← List.take_add, show i + (j - i) = j by omega]; exact HQ.out.symm
            have hne : l.drop j ≠ [] := fun e => by have := congrArg List.length e; simp at this; omega
            have hNx : ∀ w : World, Calls Tryd.prog 11 #[.string ⟨(l.drop j).toArray⟩] w fun e w' => e = .returned (nres (meas (l.drop j))) ∧ Below w.heap.size w w' := fun w => by
              rw [List.drop_eq_getElem_cons hlt]
              exact next_any _ _ (by rw [← List.drop_eq_getElem_cons hlt, List.length_drop]; omega) w
            have hbad : ∀ c, meas (l.drop j) = .bad c → lexS (l.drop i) (adv (1, 1) (l.take i)) = ([⟨4, [], q.1, q.2⟩], c) := fun c hc => by
              rw [lex_bad (by rw [hdd]; exact hne) (by rw [hdd]; exact hc), hqq]
            have htok : ∀ k n, meas (l.drop j) = .ok k n → lexS (l.drop i) (adv (1, 1) (l.take i)) = (⟨k, (l.drop j).take n, q.1, q.2⟩ :: (lexS ((l.drop j).drop n) (adv q ((l.drop j).take n))).1, (lexS ((l.drop j).drop n) (adv q ((l.drop j).take n))).2) := fun k n hc => by
              rw [lex_tok (by rw [hdd]; exact hne) (by rw [hdd]; exact hc), hqq, hdd]
            have HNX := Lib.hid hNx
            have HBAD := Lib.hid hbad
            have HTOK := Lib.hid htok
            have HNE := Lib.hid hne
            have HED := Lib.hid (extract_drop l j)
            have hlow := HT.out.lt
            have hz0 := HBw.out.size
            have HLOW := Lib.hid hlow
            have HCOL := Lib.hid hcol
            clear hg hdd hqq hne hNx hbad htok hlow hs
            obtain ⟨W1, hW1⟩ : ∃ W1, W1 = W.alloc (.cells #[.int .i64 4, .string ⟨#[]⟩, .int .i64 (q.1 : Nat), .int .i64 ((j : Int) - (s : Int) + 1)] 32) := ⟨_, rfl⟩
            have hbW1 : Below W.heap.size W W1 := by rw [hW1]; exact (Below.refl _ _).alloc (Nat.le_refl _) _
            have hLW1 : W1.heap[W.heap.size]? = some (.cells #[.int .i64 4, .string ⟨#[]⟩, .int .i64 (q.1 : Nat), .int .i64 (q.2 : Nat)] 32 (0, 0)) := by rw [hW1, hcol]; exact made_at W _ _ rfl
            have HW1 := Lib.hid hW1
            have HBW1 := Lib.hid hbW1
            have HLW1 := Lib.hid hLW1
            clear hW1 hbW1 hLW1 hcol
            go_wp2_with fail
            rw [← HW1.out, HED.out]
            refine (HNX.out _).mono ?_
            cases hm : meas (l.drop j) with
            | bad c =>
              have hc := meas_bad hm
              rintro e w2 ⟨rfl, hb2⟩
              simp only [nres]
              have hL2 := (hb2.block _ (lt_of_block HLW1.out)).trans HLW1.out
              have hT2 := (HT.out.below HBW1.out).below hb2
              have hx := HBAD.out c hm
              have hcn : ((c : Int) == 0) = false := by rw [beq_eq_false_iff_ne]; omega
              have t0 := cell_at hL2 0 rfl
              have t1 := cell_at hL2 1 rfl
              have t2 := cell_at hL2 2 rfl
              have t3 := cell_at hL2 3 rfl
              have hz2 : W.heap.size + 1 ≤ w2.heap.size := lt_of_block hL2
              have hO : Below w2.heap.size w2 (w2.alloc (.cells #[.int .i64 4, .string ⟨#[]⟩, .int .i64 (q.1 : Nat), .int .i64 (q.2 : Nat)] 32)) := (Below.refl _ _).alloc (Nat.le_refl _) _
              have HTW := Lib.hid (hT2.below hO)
              have HNW : Hid ((w2.alloc (.cells #[.int .i64 4, .string ⟨#[]⟩, .int .i64 (q.1 : Nat), .int .i64 (q.2 : Nat)] 32)).heap[w2.heap.size]? = some (.cells (tokCells ⟨4, [], q.1, q.2⟩).toArray 32 (0, 0))) := Lib.hid (made_at _ _ _ rfl)
              have HSZ : Hid (w0.heap.size ≤ (w2.alloc (.cells #[.int .i64 4, .string ⟨#[]⟩, .int .i64 (q.1 : Nat), .int .i64 (q.2 : Nat)] 32)).heap.size) := Lib.hid (by have := hO.size; omega)
              have HB5 := Lib.hid (fun (w5 : World) h5 => (((HBw.out.trans (HBW1.out.mono hz0)).trans (hb2.mono (by have := HBW1.out.size; omega))).trans (hO.mono (by omega))).trans (grown_belowR (w' := w5) h5 HSZ.out (fun j hj => (HLOW.out j hj).1)))
              have HX := Lib.hid hx
              have hc2 : c ≤ 2 := by omega
              clear hL2 hT2 hx hO hm hc hb2
              go_wp2_with (at_builtin; refine wpList_append_tok _ rfl (.tmp 96) (.tmp 98) 28 rfl 32 Tryd.underlying28 infoT w0.heap.size u4 ts rfl HTW.out w2.heap.size 32 ⟨4, [], q.1, q.2⟩ rfl HNW.out (by omega) HSZ.out ?_; intro v' w5 hT5 hG5; have HT5 := Lib.hid hT5; have HG5 := Lib.hid hG5; clear hT5 hG5)
              go_ret2
              refine ⟨v', by rw [← HE2.out, HX.out]; rfl, ?_, HB5.out w5 HG5.out⟩
              rw [← HE1.out, HX.out]; exact HT5.out
            | ok k n =>
              have hmk := meas_ok HNE.out hm
              rintro e w2 ⟨rfl, hb2⟩
              simp only [nres]
              have hL2 := (hb2.block _ (lt_of_block HLW1.out)).trans HLW1.out
              have hT2 := (HT.out.below HBW1.out).below hb2
              have hx := HTOK.out k n hm
              have hjn : j + n ≤ l.length := by have := hmk.2.2.1; rw [List.length_drop] at this; omega
              have hn1 := hmk.2.1
              have hk4 := hmk.1
              have t0 := cell_at hL2 0 rfl
              have t1 := cell_at hL2 1 rfl
              have t2 := cell_at hL2 2 rfl
              have t3 := cell_at hL2 3 rfl
              have f0 := froz_at hL2 0
              have f1 := froz_at hL2 1
              have hz2 : W.heap.size + 1 ≤ w2.heap.size := lt_of_block hL2
              have hnl := hmk.2.2.2.1
              have hlow := HLOW.out
              have hne1 : ∀ j, u4.ownBlock = some j → j ≠ W.heap.size := fun j hj => by have := (hlow j hj).2; omega
              have hO : Below w2.heap.size ((w2.setCell ⟨W.heap.size, 0, none⟩ (.int .i64 (k : Nat))).setCell ⟨W.heap.size, 1, none⟩ (.string ((⟨l.toArray⟩ : ByteArray).extract j (j + n)))) (((w2.setCell ⟨W.heap.size, 0, none⟩ (.int .i64 (k : Nat))).setCell ⟨W.heap.size, 1, none⟩ (.string ((⟨l.toArray⟩ : ByteArray).extract j (j + n)))).alloc (.cells #[.int .i64 (k : Nat), .string ((⟨l.toArray⟩ : ByteArray).extract j (j + n)), .int .i64 (q.1 : Nat), .int .i64 (q.2 : Nat)] 32)) := (Below.refl _ _).alloc (by simp) _
              have HTW := Lib.hid (((hT2.kept (grown_set w2 W.heap.size 0 _) hne1).kept (grown_set _ W.heap.size 1 _) hne1).below (w' := ((w2.setCell ⟨W.heap.size, 0, none⟩ (.int .i64 (k : Nat))).setCell ⟨W.heap.size, 1, none⟩ (.string ((⟨l.toArray⟩ : ByteArray).extract j (j + n)))).alloc (.cells #[.int .i64 (k : Nat), .string ((⟨l.toArray⟩ : ByteArray).extract j (j + n)), .int .i64 (q.1 : Nat), .int .i64 (q.2 : Nat)] 32)) ((Below.refl _ _).alloc (Nat.le_refl _) _))
              have HNW : Hid ((((w2.setCell ⟨W.heap.size, 0, none⟩ (.int .i64 (k : Nat))).setCell ⟨W.heap.size, 1, none⟩ (.string ((⟨l.toArray⟩ : ByteArray).extract j (j + n)))).alloc (.cells #[.int .i64 (k : Nat), .string ((⟨l.toArray⟩ : ByteArray).extract j (j + n)), .int .i64 (q.1 : Nat), .int .i64 (q.2 : Nat)] 32)).heap[w2.heap.size]? = some (.cells (tokCells ⟨k, (l.drop j).take n, q.1, q.2⟩).toArray 32 (0, 0))) := Lib.hid (by rw [extract_mid]; exact made_at _ _ _ (by simp))
              have HSZ : Hid (w0.heap.size ≤ (((w2.setCell ⟨W.heap.size, 0, none⟩ (.int .i64 (k : Nat))).setCell ⟨W.heap.size, 1, none⟩ (.string ((⟨l.toArray⟩ : ByteArray).extract j (j + n)))).alloc (.cells #[.int .i64 (k : Nat), .string ((⟨l.toArray⟩ : ByteArray).extract j (j + n)), .int .i64 (q.1 : Nat), .int .i64 (q.2 : Nat)] 32)).heap.size) := Lib.hid (by have := hO.size; simp at this ⊢; omega)
              have HB5 := Lib.hid (fun (w5 : World) h5 => (((((HBw.out.trans (HBW1.out.mono hz0)).trans (hb2.mono (by have := HBW1.out.size; omega))).setCell (p := ⟨W.heap.size, 0, none⟩) hz0 (.int .i64 (k : Nat))).setCell (p := ⟨W.heap.size, 1, none⟩) hz0 (.string ((⟨l.toArray⟩ : ByteArray).extract j (j + n)))).trans (hO.mono (by omega))).trans (grown_belowR (w' := w5) h5 HSZ.out (fun j hj => (hlow j hj).1)))
              have ha : adv (1, 1) (l.take (j + n)) = (q.1, q.2 + n) := by
                rw [List.take_add, adv_app, ← HQ.out, adv_flat _ _ hnl, List.length_take, List.length_drop]
                congr 2; omega
              have hb : adv q ((l.drop j).take n) = adv (1, 1) (l.take (j + n)) := by rw [List.take_add, adv_app, ← HQ.out]
              rw [hb, List.drop_drop] at hx
              have HX := Lib.hid hx
              have HAA := Lib.hid ha
              clear hm hmk hnl hx hb2 hT2 hL2 hlow hne1 hO ha hb
              go_wp2_with (at_builtin; refine wpList_append_tok _ rfl (.tmp 110) (.tmp 112) 28 rfl 32 Tryd.underlying28 infoT w0.heap.size u4 ts rfl HTW.out w2.heap.size 32 ⟨k, (l.drop j).take n, q.1, q.2⟩ rfl HNW.out (by omega) HSZ.out ?_; intro v' w5 hT5 hG5; have HT5 := Lib.hid hT5; have HG5 := Lib.hid hG5; clear hT5 hG5)
              go_roundw
              case rel =>
                have hs := HS.out
                refine ⟨ts ++ [⟨k, (l.drop j).take n, q.1, q.2⟩], j + n, s, by go_num, hjn, by rw [HAA.out], rfl, by rw [HAA.out]; simp only; omega, by simp only [List.length_append, List.length_cons, List.length_nil]; omega, HT5.out, ?_, ?_, HB5.out w5 HG5.out⟩
                · rw [← HE1.out, HX.out]; simp
                · rw [← HE2.out, HX.out]
              case measure => simp [intOf]; omega
        · by_cases h10 : l[j] = 10
          · have x10 : ((((⟨l.toArray⟩ : ByteArray)[j]'hlt).toNat : Int) == 10) = true := byte_yes (c := (⟨l.toArray⟩ : ByteArray)[j]'hlt) 10 h10
            have HG1 := Lib.hid (gap_true_nl hlt h10)
            have HSP := Lib.hid (stepP_nl (p := q) h10)
            clear h10
            go_wp2
            go_roundw
            case rel => exact ⟨⟨j + 1, j + 1, false, by go_num, rfl, by omega, by omega, by rw [HST.out, HSP.out] <;> go_num, by go_num, by rw [HST.out, HSP.out]; simp only; omega, by rw [HGP.out, HG1.out]; omega⟩, by trivial⟩
            case measure => simp [intOf]; omega
          · have x10 : ((((⟨l.toArray⟩ : ByteArray)[j]'hlt).toNat : Int) == 10) = false := byte_no (c := (⟨l.toArray⟩ : ByteArray)[j]'hlt) 10 h10
            have HG1 := Lib.hid (gap_true hlt h10)
            have HSP := Lib.hid (stepP_no (p := q) h10)
            clear h10
            go_wp2
            go_roundw
            case rel => exact ⟨⟨j + 1, s, true, by go_num, rfl, by omega, by omega, by rw [HST.out, HSP.out] <;> go_num, rfl, by rw [HST.out, HSP.out]; simp only; omega, by rw [HGP.out, HG1.out]; omega⟩, by trivial⟩
            case measure => simp [intOf]; omega
      · have hjl : j = l.length := by omega
        have hje : ((j : Int) == (l.length : Int)) = true := by rw [hjl]; simp
        have hs := HS.out
        subst hjl
        have hcol : ((l.length : Int) - (s : Int) + 1) = (q.2 : Int) := by omega
        have hO : Below W.heap.size W ((W.alloc (.cells #[.int .i64 4, .string ⟨#[]⟩, .int .i64 (q.1 : Nat), .int .i64 ((l.length : Int) - (s : Int) + 1)] 32)).alloc (.cells #[.int .i64 4, .string ⟨#[]⟩, .int .i64 (q.1 : Nat), .int .i64 ((l.length : Int) - (s : Int) + 1)] 32)) := ((Below.refl _ _).alloc (Nat.le_refl _) _).alloc (by simp) _
        have hTW := HT.out.below hO
        have hNW : ((W.alloc (.cells #[.int .i64 4, .string ⟨#[]⟩, .int .i64 (q.1 : Nat), .int .i64 ((l.length : Int) - (s : Int) + 1)] 32)).alloc (.cells #[.int .i64 4, .string ⟨#[]⟩, .int .i64 (q.1 : Nat), .int .i64 ((l.length : Int) - (s : Int) + 1)] 32)).heap[W.heap.size + 1]? = some (.cells (tokCells ⟨4, [], q.1, q.2⟩).toArray 32 (0, 0)) := by
          rw [hcol]; exact made_at _ _ _ (by simp)
        have hlow := HT.out.lt
        have hz0 := HBw.out.size
        have HSZ : Hid (w0.heap.size ≤ ((W.alloc (.cells #[.int .i64 4, .string ⟨#[]⟩, .int .i64 (q.1 : Nat), .int .i64 ((l.length : Int) - (s : Int) + 1)] 32)).alloc (.cells #[.int .i64 4, .string ⟨#[]⟩, .int .i64 (q.1 : Nat), .int .i64 ((l.length : Int) - (s : Int) + 1)] 32)).heap.size) := Lib.hid (Nat.le_trans hz0 hO.size)
        have HB5 := Lib.hid (fun (w5 : World) h5 => (HBw.out.trans (hO.mono hz0)).trans (grown_belowR (w' := w5) h5 HSZ.out (fun j hj => (hlow j hj).1)))
        have HTW := Lib.hid hTW
        have HNW := Lib.hid hNW
        have hx : lexS (l.drop i) (adv (1, 1) (l.take i)) = ([⟨4, [], q.1, q.2⟩], 0) := by
          rw [lex_end (by rw [HGP.out, List.drop_eq_nil_iff, List.length_drop]; omega), ← adv_app, List.take_append_drop]
          rw [List.take_length] at HQ
          rw [HQ.out]
        have HX := Lib.hid hx
        clear hTW hNW hlow hO hx hcol hs
        go_wp2_with (at_builtin; refine wpList_append_tok _ rfl (.tmp 82) (.tmp 84) 28 rfl 32 Tryd.underlying28 infoT w0.heap.size u4 ts rfl HTW.out (W.heap.size + 1) 32 ⟨4, [], q.1, q.2⟩ rfl HNW.out (by omega) HSZ.out ?_; intro v' w5 hT5 hG5; have HT5 := Lib.hid hT5; have HG5 := Lib.hid hG5; clear hT5 hG5)
        go_ret2
        refine ⟨v', by rw [← HE2.out, HX.out]; rfl, ?_, HB5.out w5 HG5.out⟩
        rw [← HE1.out, HX.out]; exact HT5.out
end Go.Proofs.YtnjdbljdaghdmaaDoor
