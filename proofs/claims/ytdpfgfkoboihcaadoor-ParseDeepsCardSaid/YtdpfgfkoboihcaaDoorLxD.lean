/-
  The contract of lex.Lex: the tokens of a text, or the error at its place.
-/
import Derived.Test.YtdpfgfkoboihcaaDoorLxC
import Derived.Laws.OwnMore
namespace Go.Proofs.YtdpfgfkoboihcaaDoor
open Go.RowKit
set_option maxRecDepth 100000

/-- A token's cells, and a slice of the call's own that holds tokens. -/
def tokCells (t : Tok) : List Value := [.int .i64 (t.kind : Nat), .string ⟨t.text.toArray⟩, .int .i64 (t.line : Nat), .int .i64 (t.col : Nat)]
def Tk (w : World) (base : Nat) (e : TypeId) (v : Value) (ts : List Tok) : Prop := w.ownsRow base e 4 v ts.length (ts.flatMap tokCells)
theorem tok_len (ts : List Tok) : (ts.flatMap tokCells).length = ts.length * 4 := by
  induction ts with
  | nil => rfl
  | cons t ts ih => simp only [List.flatMap_cons, List.length_append, ih, List.length_cons, tokCells]; simp; omega
theorem tok_at (ts : List Tok) (k j : Nat) (hk : k < ts.length) (hj : j < 4) : (ts.flatMap tokCells)[k * 4 + j]? = (tokCells ts[k])[j]? := by
  induction ts generalizing k with
  | nil => simp at hk
  | cons t ts ih =>
    have hl : (tokCells t).length = 4 := rfl
    cases k with
    | zero => simp only [List.flatMap_cons, List.getElem_cons_zero]; rw [List.getElem?_append_left (by omega)]; simp
    | succ k =>
      simp only [List.flatMap_cons, List.getElem_cons_succ]
      rw [List.getElem?_append_right (by omega), ← ih k (by simpa using hk), hl]
      congr 1; omega
theorem Tk.nil (w : World) (base : Nat) (e : TypeId) : Tk w base e (.slice none 0 0) [] := World.ownsRow_nil w base e 4
theorem Tk.form {w : World} {base : Nat} {e : TypeId} {v : Value} {ts : List Tok} (h : Tk w base e v ts) : ∃ a cap, v = .slice a ts.length cap ∧ ts.length ≤ cap ∧ cap ≤ maxLen ∧ (ts ≠ [] → ∃ g, a = some ⟨g, 0, none⟩ ∧ base ≤ g ∧ g < w.heap.size ∧ ∀ k (hk : k < ts.length), w.cell? ⟨g, k * 4, none⟩ = some (.int .i64 (ts[k].kind : Nat)) ∧ w.cell? ⟨g, k * 4 + 1, none⟩ = some (.string ⟨ts[k].text.toArray⟩) ∧ w.cell? ⟨g, k * 4 + 2, none⟩ = some (.int .i64 (ts[k].line : Nat)) ∧ w.cell? ⟨g, k * 4 + 3, none⟩ = some (.int .i64 (ts[k].col : Nat))) := by
  have h0 := h
  rcases h.2 with ⟨rfl, hn⟩ | ⟨g, cap, cur, rfl, hb, hg, hn, hm, hs, ht⟩
  · refine ⟨none, 0, by rw [hn], by omega, Nat.zero_le _, fun hne => absurd (List.eq_nil_of_length_eq_zero hn) hne⟩
  · refine ⟨some ⟨g, 0, none⟩, cap, rfl, hn, hm, fun _ => ⟨g, rfl, hb, lt_of_block hg, fun k hk => ?_⟩⟩
    have hc : ∀ j, j < 4 → w.cell? ⟨g, k * 4 + j, none⟩ = (tokCells ts[k])[j]? := fun j hj => by
      rw [World.ownsRow.cellAt h0 (k * 4 + j) (by omega), tok_at ts k j hk hj]
    exact ⟨hc 0 (by omega), hc 1 (by omega), hc 2 (by omega), hc 3 (by omega)⟩
theorem Tk.lt {w : World} {base : Nat} {e : TypeId} {v : Value} {ts : List Tok} (h : Tk w base e v ts) : ∀ j, v.ownBlock = some j → base ≤ j ∧ j < w.heap.size := fun j hj => World.ownsRow.lt h j hj
theorem Tk.below {w w' : World} {base : Nat} {e : TypeId} {v : Value} {ts : List Tok} (h : Tk w base e v ts) (hb : Below w.heap.size w w') : Tk w' base e v ts :=
  World.ownsRow.kept h (below_grown hb none) (by cases hv : v.ownBlock with | none => exact .inl rfl | some g => exact .inr (show some g ≠ none by simp))
theorem Tk.grown {w w' : World} {base g : Nat} {e : TypeId} {v : Value} {ts : List Tok} (h : Tk w base e v ts) (hg : w.grownBy w' (some g)) (hlt : g < base) : Tk w' base e v ts :=
  World.ownsRow.kept h hg (by cases hv : v.ownBlock with | none => exact .inl rfl | some j => refine .inr (fun e => ?_); injection e with e; have := (h.lt j hv).1; omega)

/-- 'append(out, t)' of one token, which lies in a block of its own. -/
theorem wpList_append_tok {P : Program} (w : World) {ops : Array Oper} {rest : List Oper} {o : Oper} {a : Act} {Q : Exit → Act → World → Prop} (hgd : o.guard = none) (s x : Operand) (t : TypeId)
    (ho : o.op = .call { callee := .builtin .append, args := #[s, x], argTypes := #[t, t] })
    (e : TypeId) (ht : P.underlying t = some (.slice e)) (hinfo : (P.info? e).map (fun i => (i.zero, i.size, i.bytes)) = some (some (.agg #[.int .i64 0, .string ⟨#[]⟩, .int .i64 0, .int .i64 0]), 4, 40))
    (base : Nat) (v : Value) (ts : List Tok) (hs : a.eval s = v) (hown : Tk w base e v ts)
    (h : Nat) (T : TypeId) (tk : Tok) (hx : a.eval x = .slice (some ⟨h, 0, none⟩) 1 1) (hc : w.heap[h]? = some (.cells (tokCells tk).toArray T (0, 0)))
    (hlen : ts.length ≤ 1000000000) (hbase : base ≤ w.heap.size)
    (hK : ∀ v' w', Tk w' base e v' (ts ++ [tk]) → w.grownBy w' v.ownBlock → wpList P ops Q rest (a.put o.dst v') w') : wpList P ops Q (o :: rest) a w := by
  obtain ⟨i, hi, hz, hz1, hz2⟩ := info_parts hinfo
  refine wpList_append_own w hgd s x t ho base e i _ 4 40 ht hi hz hz1 hz2 rfl (by decide) v ts.length _ hs hown ⟨h, 0, none⟩ 1 1 (tokCells tk) hx rfl ?_ ?_ (by unfold maxLen; omega) (by omega) hbase ?_
  · intro j u hj
    exact World.news_of_block hc j u (by simpa using hj)
  · intro u hu
    simp only [tokCells, List.mem_cons, List.not_mem_nil, or_false] at hu
    rcases hu with rfl | rfl | rfl | rfl <;> rfl
  · intro v' w' h1 h2 _
    refine hK v' w' ?_ h2
    unfold Tk
    rw [List.flatMap_append, List.length_append]
    simpa [List.flatMap_cons] using h1

theorem infoTok : (Tryd.prog.info? 57).map (fun i => (i.zero, i.size, i.bytes)) = some (some (.agg #[.int .i64 0, .string ⟨#[]⟩, .int .i64 0, .int .i64 0]), 4, 40) := by kernel_rfl

/-- What lex.Lex gives. -/
def LexPost (l : Bs) (w0 : World) (e : Ending) (w' : World) : Prop :=
  Below w0.heap.size w0 w' ∧
  (((lexS l (1, 1)).2 = 0 ∧ ∃ v, e = .returned (.tuple #[v, .nilIface]) ∧ Tk w' (w0.heap.size + 1) 57 v (lexS l (1, 1)).1) ∨
   ((lexS l (1, 1)).2 ≠ 0 ∧ ∃ q t, (lexS l (1, 1)).1.getLast? = some t ∧ e = .returned (.tuple #[.slice none 0 0, .iface 45 (.pointer (some ⟨q, 0, none⟩))]) ∧ AtB w' q (t.line, t.col) (.iface 36 (.int .i64 ((lexS l (1, 1)).2 : Nat))) ∧ w0.heap.size ≤ q))

theorem grown_belowR {w w' : World} {B : Nat} {row : Option Nat} (h : w.grownBy w' row) (hB : B ≤ w.heap.size) (hr : ∀ j, row = some j → B ≤ j) : Below B w w' :=
  ⟨h.os, h.tape, h.output, h.size, fun k hk => h.block k (by omega) (fun e => by have := hr k e.symm; omega)⟩
/-- How much the reader has left. -/
def restLen (w : World) (g : Nat) : Nat := match w.cell? ⟨g, 0, none⟩ with | some (.string b) => b.size | _ => 0
theorem Rd.len {w : World} {g : Nat} {l : Bs} {p : Nat × Nat} (h : Rd w g l p) : restLen w g = l.length := by
  unfold restLen; rw [cell_at h 0 rfl]; rfl

/-- What holds at the head of Lex's loop. -/
def LexInv (l : Bs) (w0 : World) (tv : Value) (wr : World) : Prop :=
  ∃ (ts : List Tok) (s : Bs) (p : Nat × Nat), Rd wr w0.heap.size s p ∧ Tk wr (w0.heap.size + 1) 57 tv ts ∧ ts ++ (lexS s p).1 = (lexS l (1, 1)).1 ∧ (lexS s p).2 = (lexS l (1, 1)).2 ∧
    s.length + ts.length ≤ l.length ∧ (∃ pre, pre ++ s = l ∧ p = adv (1, 1) pre) ∧ Below w0.heap.size w0 wr

set_option maxHeartbeats 4000000 in
theorem lex_any (l : Bs) (w0 : World) (hl : l.length ≤ 20000) :
    Calls Tryd.prog 13 #[.string ⟨l.toArray⟩] w0 (LexPost l w0) := by
  have hsz : (⟨l.toArray⟩ : ByteArray).size = l.length := rfl
  have hd : decide ((20000 : Int) < (l.length : Int)) = false := by simp; omega
  go_enter Tryd.func13, Tryd.ntmps13
  go_wp2_with fail
  go_loopw [5] (fun tv wr => LexInv l w0 tv wr) (fun _ wr => restLen wr w0.heap.size)
  case atStart =>
    exact ⟨[], l, (1, 1), made_at w0 _ _ rfl, Tk.nil _ _ _, rfl, rfl, by simp, ⟨[], rfl, rfl⟩, (Below.refl _ _).alloc (Nat.le_refl _) _⟩
  case round =>
    obtain ⟨ts, s, p, hR, hT, he1, he2, hlen, ⟨pre, hpre, hp⟩, hb⟩ := hrel
    have hpl : pre.length + s.length = l.length := by rw [← hpre, List.length_append]
    have hpb := adv_bd (1, 1) pre
    rw [← hp] at hpb
    have hp1 : p.1 ≤ 900000 := by simp only at hpb; omega
    have hp2 : p.2 ≤ 900000 := by simp only at hpb; omega
    have hsl : s.length ≤ 20000 := by omega
    have htl : ts.length ≤ 20000 := by omega
    have hz0 := hb.size
    have HR := Lib.hid hR
    have HT := Lib.hid hT
    have HE1 := Lib.hid he1
    have HE2 := Lib.hid he2
    have HP := Lib.hid hpre
    have HPP := Lib.hid hp
    have HBw := Lib.hid hb
    have HLn := Lib.hid hlen
    clear hR hT he1 he2 hpre hp hb hpl hpb hlen
    by_cases hs : ∃ c, s.drop (gapL false s) ≠ [] ∧ meas (s.drop (gapL false s)) = .bad c
    · obtain ⟨c, hs1, hs2⟩ := hs
      have HX := Lib.hid (lex_bad (p := p) hs1 hs2)
      have HS := Lib.hid hs2
      have hc := meas_bad hs2
      clear hs1 hs2
      go_wp2_with fail
      refine (next_bad w0.heap.size s p wr c HR.out hsl hp1 hp2 HS.out).mono ?_
      rintro e w2 ⟨q, rfl, hA, hq, hG⟩
      have HA := Lib.hid hA
      have HG := Lib.hid hG
      clear hA hG
      go_wp2
      go_ret2
      have h2 : (lexS l (1, 1)).2 = c := by rw [← HE2.out, HX.out]
      have h1 : (lexS l (1, 1)).1.getLast? = some ⟨4, [], (adv p (s.take (gapL false s))).1, (adv p (s.take (gapL false s))).2⟩ := by rw [← HE1.out, HX.out]; simp
      refine ⟨(HBw.out.trans (grown_below HG.out hz0 (Nat.le_refl _))).alloc (by have := HG.out.size; omega) _, .inr ⟨by rw [h2]; omega, q, _, h1, rfl, ?_, by omega⟩⟩
      rw [h2]
      have := HA.out
      unfold AtB at this ⊢
      rw [Below.heap_alloc w2 _ q (lt_of_block this)]; exact this
    · obtain ⟨k, m, hm, hml⟩ : ∃ k m, meas (s.drop (gapL false s)) = .ok k m ∧ m ≤ (s.drop (gapL false s)).length := by
        by_cases h0 : s.drop (gapL false s) = []
        · exact ⟨4, 0, by rw [h0]; rfl, Nat.zero_le _⟩
        · cases hmm : meas (s.drop (gapL false s)) with
          | ok k m => exact ⟨k, m, rfl, (meas_ok h0 hmm).2.2.1⟩
          | bad c => exact absurd ⟨c, h0, hmm⟩ hs
      have hN := next_ok w0.heap.size s p wr k m HR.out hsl hp1 hp2 hm hml
      obtain ⟨s1, hs1⟩ : ∃ s1, s1 = s.drop (gapL false s) := ⟨_, rfl⟩
      obtain ⟨q, hq⟩ : ∃ q, q = adv p (s.take (gapL false s)) := ⟨_, rfl⟩
      have hX : k = 4 → m = 0 → s1 = [] → lexS s p = ([⟨4, [], q.1, q.2⟩], 0) := fun _ _ h0 => by
        rw [lex_end (by rw [← hs1]; exact h0), hq, List.take_of_length_le (List.drop_eq_nil_iff.1 (by rw [← hs1]; exact h0))]
      have hY : s1 ≠ [] → lexS s p = (⟨k, s1.take m, q.1, q.2⟩ :: (lexS (s1.drop m) (adv q (s1.take m))).1, (lexS (s1.drop m) (adv q (s1.take m))).2) := fun h0 => by
        rw [lex_tok (k := k) (n := m) (by rw [← hs1]; exact h0) hm, ← hs1, ← hq]
      have hs1l : s1.length ≤ s.length := by rw [hs1, List.length_drop]; omega
      have hq1 : q = adv (1, 1) (pre ++ s.take (gapL false s)) := by rw [adv_app, ← HPP.out]; exact hq
      have hpre1 : (pre ++ s.take (gapL false s)) ++ s1 = l := by rw [hs1, List.append_assoc, List.take_append_drop]; exact HP.out
      rw [← hs1, ← hq] at hN
      rw [← hs1] at hm hml
      have HN := Lib.hid hN
      have HM := Lib.hid hm
      have HX := Lib.hid hX
      have HY := Lib.hid hY
      have HQ1 := Lib.hid hq1
      have HPR := Lib.hid hpre1
      have hk4 : (k = 4 ∧ m = 0 ∧ s1 = []) ∨ (k < 4 ∧ 1 ≤ m ∧ s1 ≠ []) := by
        by_cases h0 : s1 = []
        · rw [h0] at hm; injection hm with e1 e2; exact .inl ⟨e1.symm, e2.symm, h0⟩
        · have := meas_ok h0 hm; exact .inr ⟨this.1, this.2.1, h0⟩
      clear hs hm hN hX hY hs1 hq hq1 hpre1
      go_wp2_with fail
      refine HN.out.mono ?_
      rintro e w2 ⟨rfl, hR2, hG⟩
      have hT2 := HT.out.grown hG (Nat.lt_succ_self _)
      have HR2 := Lib.hid hR2
      have HG := Lib.hid hG
      have hz2 : wr.heap.size ≤ w2.heap.size := hG.size
      have hlow := hT2.lt
      obtain ⟨W, hW⟩ : ∃ W, W = (w2.alloc (.cells #[.int .i64 (k : Nat), .string ⟨(s1.take m).toArray⟩, .int .i64 (q.1 : Nat), .int .i64 (q.2 : Nat)] 57)).alloc (.cells #[.int .i64 (k : Nat), .string ⟨(s1.take m).toArray⟩, .int .i64 (q.1 : Nat), .int .i64 (q.2 : Nat)] 57) := ⟨_, rfl⟩
      have hbW : Below w2.heap.size w2 W := by rw [hW]; exact ((Below.refl _ _).alloc (Nat.le_refl _) _).alloc (by simp) _
      have hTW := hT2.below hbW
      have hLW : W.heap[w2.heap.size]? = some (.cells #[.int .i64 (k : Nat), .string ⟨(s1.take m).toArray⟩, .int .i64 (q.1 : Nat), .int .i64 (q.2 : Nat)] 57 (0, 0)) := by
        rw [hW, Below.heap_alloc _ _ _ (by simp)]; exact made_at w2 _ _ rfl
      have hNW : W.heap[w2.heap.size + 1]? = some (.cells (tokCells ⟨k, s1.take m, q.1, q.2⟩).toArray 57 (0, 0)) := by
        rw [hW]; exact made_at _ _ _ (by simp)
      have hF : ∀ w5, W.grownBy w5 u5.ownBlock → w5.cell? ⟨w2.heap.size, 0, none⟩ = some (.int .i64 (k : Nat)) := fun w5 h5 =>
        (World.cell?_of_block (h5.block _ (lt_of_block hLW) (fun e => absurd (hlow _ e.symm).2 (Nat.lt_irrefl _)))).trans (cell_at hLW 0 rfl)
      have hB5 : ∀ w5, W.grownBy w5 u5.ownBlock → Below w0.heap.size w0 w5 := fun w5 h5 =>
        ((HBw.out.trans (grown_below hG hz0 (Nat.le_refl _))).trans (hbW.mono (by omega))).trans (grown_belowR h5 (by have := hbW.size; omega) (fun j hj => by have := (hlow j hj).1; omega))
      have hR5 : ∀ w5, W.grownBy w5 u5.ownBlock → Rd w5 w0.heap.size (s1.drop m) (adv q (s1.take m)) := fun w5 h5 => by
        have h := hR2.below hbW
        unfold Rd at h ⊢
        rw [h5.block _ (lt_of_block h) (fun e => by have := (hlow _ e.symm).1; omega)]; exact h
      rw [hW] at hTW hNW hF hB5 hR5
      have HB5 := Lib.hid hB5
      have HR5 := Lib.hid hR5
      have HTW := Lib.hid hTW
      have HNW := Lib.hid hNW
      have HF := Lib.hid hF
      have HW := Lib.hid hW
      have HbW := Lib.hid hbW
      have HT2 := Lib.hid hT2
      have hbs : w0.heap.size + 1 ≤ w2.heap.size := HR2.out.lt
      clear hR2 hG hT2 hTW hNW hF hW hLW hbW hlow hB5 hR5
      rcases hk4 with ⟨rfl, hm0, h0⟩ | ⟨hk4, hm1, h0⟩
      · have H0 := Lib.hid h0
        have HM0 := Lib.hid hm0
        clear h0 hm0
        go_wp2_with (at_builtin; refine wpList_append_tok _ rfl (.tmp 22) (.tmp 24) 51 rfl 57 Tryd.underlying51 infoTok (w0.heap.size + 1) u5 ts rfl HTW.out (w2.heap.size + 1) 57 ⟨4, s1.take m, q.1, q.2⟩ rfl HNW.out (by omega) (by simp; omega) ?_; intro v' w5 hT5 hG5; have k0 := HF.out w5 hG5; have HT5 := Lib.hid hT5; have HG5 := Lib.hid hG5; clear hT5 hG5)
        go_ret2
        have hx := HX.out (by trivial) HM0.out H0.out
        have hT5 := HT5.out
        rw [H0.out, List.take_nil] at hT5
        refine ⟨HB5.out w5 HG5.out, .inl ⟨by rw [← HE2.out, hx], v', rfl, ?_⟩⟩
        rw [← HE1.out, hx]; exact hT5
      · have hk : ((k : Int) == 4) = false := by rw [beq_eq_false_iff_ne]; omega
        have H0 := Lib.hid h0
        clear h0
        go_wp2_with (at_builtin; refine wpList_append_tok _ rfl (.tmp 22) (.tmp 24) 51 rfl 57 Tryd.underlying51 infoTok (w0.heap.size + 1) u5 ts rfl HTW.out (w2.heap.size + 1) 57 ⟨k, s1.take m, q.1, q.2⟩ rfl HNW.out (by omega) (by simp; omega) ?_; intro v' w5 hT5 hG5; have k0 := HF.out w5 hG5; have HT5 := Lib.hid hT5; have HG5 := Lib.hid hG5; clear hT5 hG5)
        go_roundw
        case rel =>
          have hy := HY.out H0.out
          refine ⟨ts ++ [⟨k, s1.take m, q.1, q.2⟩], s1.drop m, adv q (s1.take m), HR5.out w5 HG5.out, HT5.out, ?_, ?_, ?_, ⟨(pre ++ s.take (gapL false s)) ++ s1.take m, ?_, ?_⟩, HB5.out w5 HG5.out⟩
          · rw [← HE1.out, hy]; simp
          · rw [← HE2.out, hy]
          · have := HLn.out; simp only [List.length_append, List.length_drop, List.length_cons, List.length_nil]; omega
          · rw [List.append_assoc, List.take_append_drop]; exact HPR.out
          · rw [adv_app, ← HQ1.out]
        case measure => rw [(HR5.out w5 HG5.out).len, HR.out.len, List.length_drop]; omega
end Go.Proofs.YtdpfgfkoboihcaaDoor
