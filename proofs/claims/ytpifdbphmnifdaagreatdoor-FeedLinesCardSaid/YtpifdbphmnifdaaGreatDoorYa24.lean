/-
  Facts about the program that the statement's proof uses. Condition: none beyond each theorem's own hypotheses.
-/
import Derived.Deep.QuietTactic
import Derived.BigQuiet
import Derived.Test.YtpifdbphmnifdaaGreatDoorYa3
import Derived.Test.YtpifdbphmnifdaaGreatDoorYa4
import Derived.Test.YtpifdbphmnifdaaGreatDoorYa10
import Derived.Test.YtpifdbphmnifdaaGreatDoorYa11
import Derived.Test.YtpifdbphmnifdaaGreatDoorYa14
import Derived.Test.YtpifdbphmnifdaaGreatDoorYa20
import Derived.Test.YtpifdbphmnifdaaGreatDoorYa23
set_option maxRecDepth 100000
set_option maxHeartbeats 8000000
namespace Go.Proofs.YtpifdbphmnifdaaGreatDoor
open Go.RowKit
theorem prs_any (F_:Fm) (hB:FmB F_) {w:World} (FO:∀ w',Below w.heap.size w w'→Fo F_ w') (hk:GoodK w) (s:Bs) (hs:s.length≤1099511627776) :
  Calls Tryz.prog 10 #[.string (str s)] w fun e w'=>PaR F_ s w e w':=by
 suffices h:∀ Z:Ending→World→Prop,(∀ e w',PaR F_ s w e w'→Z e w')→Calls Tryz.prog 10 #[.string (str s)] w fun e w'=>Z e w' from h _ (fun _ _ h=>h)
 intro Z hZ
 have HZ:=Lib.hid hZ
 clear hZ
 obtain ⟨wa,hwa⟩:∃ X,w.alloc (.cells zT 36 (0,0)) = X:=⟨_,rfl⟩
 have ba:Below w.heap.size w wa:=by rw [← hwa]; exact (Below.refl _ _).alloc (Nat.le_refl _) _
 have ha:wa.heap[w.heap.size]? = some (.cells zT 36 (0,0)):=by rw [← hwa]; exact heap_alloc_new _ _
 have hla:wa.heap.size = w.heap.size + 1:=by rw [← hwa]; simp
 obtain ⟨ls,z,hz⟩:∃ ls z,linR s = (ls,z):=⟨_,_,rfl⟩
 have C0:=S4.flines_any (str s) (by rw [size_str]; exact hs) wa
 rw [show S4.linesR (str s).data.toList = (ls,z) from hz] at C0
 have C0:=Lib.hid C0
 have hzT:(Tryz.prog.info? 36).map (·.size) = some zT.size:=size_tt
 by_cases h0:z = 0
 ·subst h0
  have hfe:feedP F_ s = if (goR F_ ls 1 R0).2.1≠0 then (T0,(goR F_ ls 1 R0).1,(goR F_ ls 1 R0).2.1) else if (ttC (goR F_ ls 1 R0).2.2.T).2.2≠0 then (T0,whr (goR F_ ls 1 R0).2.2 (ttC (goR F_ ls 1 R0).2.2.T).1 (ttC (goR F_ ls 1 R0).2.2.T).2.1,(ttC (goR F_ ls 1 R0).2.2.T).2.2) else ((goR F_ ls 1 R0).2.2.T,0,0):=by
   unfold feedP
   rw [hz,if_neg (fun q=>q rfl)]
  have hl5:=lin_ok (s:=s) (by rw [hz])
  rw [hz] at hl5
  have hl5:(textL ls).length≤65536:=hl5
  have hll:ls.length≤65536:=Nat.le_trans (text_len ls) hl5
  have hxl:∀ x∈ls,x.length≤65536:=fun x hx=>Nat.le_trans (text_len_mem hx) hl5
  clear hz
  generalize str s = ss at C0 ⊢
  go_enter Tryz.func10,Tryz.ntmps10
  go_wp2_with fail
  refine C0.out.mono ?_
  rintro q w1 ⟨v,rfl,ho,hb⟩
  dsimp only at ho ⊢
  obtain ⟨A0,c0,rfl,-,-,hcl⟩:=ownK_shape ho
  have HC:=Lib.hid hcl
  have r1:w1.heap[w.heap.size]? = some (.cells zT 36 (0,0)):=(hb.block _ (by omega)).trans ha
  have hl1:w.heap.size < w1.heap.size:=by have:=hb.size; omega
  have B1:Below w.heap.size w w1:=ba.trans (hb.mono (by omega))
  have FO1:=FO w1 B1
  have HR:=Lib.hid (And.intro r1 (And.intro hl1 (And.intro B1 FO1)))
  have NW:=Lib.hid (new_any w1)
  clear C0 ho hb B1 ba ha hla hwa hcl r1 hl1 FO1 FO
  go_wp2_with fail
  refine NW.out.mono ?_
  rintro q w2 ⟨rfl,hp⟩
  obtain ⟨F,hF⟩:∃ F,w1.heap.size + 5 = F:=⟨_,rfl⟩
  rw [hF] at hp ⊢
  have I0:Hid (LpI F_ w1 F ls 0 w2):=Lib.hid ⟨R0,0,Nat.le_refl _,hp,rfl,ok6_new,Inv.start ls⟩
  clear hp NW
  have HFE:=Lib.hid hfe
  have HK:=Lib.hid hk
  have HX:=Lib.hid hxl
  have HZT:=Lib.hid hzT
  have HF:=Lib.hid hF
  clear hfe hk hxl hzT hF
  go_wp2_with fail
  go_loopw [26] (fun i wr=>∃ k:Nat,i = .int .i64 k∧k≤ls.length∧Hid (LpI F_ w1 F ls k wr)) (fun i _=>ls.length - (intOf i).toNat)
  case atStart=>exact ⟨0,rfl,Nat.zero_le _,I0⟩
  case round =>
   obtain ⟨k,rfl,hk,LI⟩:=hrel
   by_cases hlt:k < ls.length
   ·obtain ⟨x,hx⟩:=get_some hlt
    obtain ⟨g,rfl,-,hg1,hcell⟩:=HC.out (by omega)
    have m1:wr.cell? ⟨g,k,none⟩ = some (.string (str x)):=by
     obtain ⟨r,N,hN,P,hg,ok,iv⟩:=LI.out
     have:=hcell k _ (sts_get hx)
     rw [Nat.zero_add] at this
     rw [← this]
     unfold World.cell?
     rw [P.low.block g hg1]
    have gk:(k:Int) < (ls.length:Int):=by omega
    have CI:=ign_any x
    have hk':=hlt
    clear hcell
    cases hi:ign x with
    | true =>
     rw [hi] at CI
     have CI:=Lib.hid CI
     have K2:Hid (LpI F_ w1 F ls (k + 1) wr):=Lib.hid (by
      obtain ⟨r,N,hN,P,hg,ok,iv⟩:=LI.out
      have e:oneR F_ r x ((k:Int) + 1) = (0,r):=by unfold oneR; rw [hi]; rfl
      exact LpI.next hB hN (by omega) P hg ok iv hx (by rw [e]) (N':=N) (by omega) (by rw [e]; exact P))
     clear hx hi LI I0
     generalize str x = sx at m1 CI
     go_wp2_with fail
     refine (CI.out _).mono ?_
     rintro e w' ⟨rfl,rfl⟩
     go_wp2_with fail
     go_roundw
     case rel=>exact ⟨k + 1,by go_num,by omega,K2⟩
     case measure=>simp [intOf]; omega
    | false =>
     rw [hi] at CI
     have CI:=Lib.hid CI
     obtain ⟨r,N,hN,P,hg,ok,iv⟩:=LI.out
     have CR:=rec_any F_ HR.out.2.2.2 P (by omega) x (HX.out x (List.mem_of_getElem? hx)) hi ((k:Int) + 1) (by omega)
     by_cases h1:(oneR F_ r x ((k:Int) + 1)).1 = 0
     ·rw [h1] at CR
      have NX:=Lib.hid (fun w3 (P':Pa w1 F (oneR F_ r x ((k:Int) + 1)).2 (N + 1) w3)=>LpI.next hB hN (by omega) P hg ok iv hx h1 (by omega) P')
      have CR:=Lib.hid CR
      clear hx hi LI I0 P hg ok iv h1
      generalize str x = sx at m1 CI CR
      go_wp2_with fail
      refine (CI.out _).mono ?_
      rintro e w' ⟨rfl,rfl⟩
      go_wp2_with fail
      refine CR.out.mono ?_
      rintro e w3 ⟨rfl,-,hp3⟩
      have K2:=Lib.hid (NX.out w3 (hp3 trivial))
      clear hp3 CR NX CI m1
      go_wp2_with fail
      go_roundw
      case rel=>exact ⟨k + 1,by go_num,by omega,K2⟩
      case measure=>simp [intOf]; omega
     ·have hfe:feedP F_ s = (T0,(k:Int) + 1,(oneR F_ r x ((k:Int) + 1)).1):=by
       have e1:ls.drop k = x :: ls.drop (k + 1):=by
        obtain ⟨hl,e⟩:=List.getElem?_eq_some_iff.1 hx
        rw [List.drop_eq_getElem_cons hl,e]
       have e2:goR F_ ls 1 R0 = ((k:Int) + 1,(oneR F_ r x ((k:Int) + 1)).1,(oneR F_ r x ((k:Int) + 1)).2):=by rw [hg,e1,goR_cons,if_pos h1]
       rw [HFE.out,e2,if_pos h1]
      obtain ⟨zz,hzz⟩:∃ zz,(oneR F_ r x ((k:Int) + 1)).1 = zz:=⟨_,rfl⟩
      rw [hzz] at CR hfe h1
      have CR:=Lib.hid CR
      have HP:=Lib.hid (fun w' (b:Below w.heap.size w w')=>PaR.err (w:=w) (w':=w') hfe b)
      have hzT:=HZT.out
      clear hx hi LI I0 P hg ok iv hzz hfe
      generalize str x = sx at m1 CI CR
      go_wp2_with fail
      refine (CI.out _).mono ?_
      rintro e w' ⟨rfl,rfl⟩
      go_wp2_with fail
      refine CR.out.mono ?_
      rintro e w3 ⟨rfl,hb3,-⟩
      have r0:w3.heap[w.heap.size]? = some (.cells zT 36 (0,0)):=(hb3.block _ HR.out.2.1).trans HR.out.1
      have R1:=Lib.hid (HZ.out _ _ (HP.out w3 (HR.out.2.2.1.trans (hb3.mono (by have:=HR.out.2.1; omega)))))
      clear hb3 CR CI m1
      obtain ⟨y0,z0,x0,y1,z1,x1,y2,z2,x2,y3,z3,x3,y4,z4,x4,y5,z5,x5,y6,z6,x6,y7,z7,x7,y8,z8,x8,y9,z9,x9,y10,z10,x10,y11,z11,x11,y12,z12,x12⟩:=zcells r0
      go_wp2_with fail
      (try simp only [Exit.inBlock,Exit.then]); refine bodyPost_ret (results_cell2 rfl _ _ w.heap.size 36 zT (0,0) _ rfl r0 Tryz.underlying36 rfl hzT) rfl ?_
      exact R1.out
   ·obtain rfl:k = ls.length:=by omega
    have gk:decide ((ls.length:Int) < (ls.length:Int)) = false:=by simp
    obtain ⟨r,N,hN,P,hg,ok,iv⟩:=LI.out
    have hgo:goR F_ ls 1 R0 = (0,0,r):=by rw [hg,List.drop_length]; rfl
    have hfr:=go_fr F_ ls 1 R0 (by rw [hgo])
    rw [hgo] at hfr
    have hfr:r.T.fr.length * 14≤0 * 14 + (textL ls).length:=hfr
    have P':=P
    obtain ⟨vs,ts,U,lw,B,m,V,lx,G,e1,PT,L,hcl⟩:=P'
    have okU:=ok.cop PT.cop
    obtain ⟨a,c,hX,hrg⟩:=PT.ttL G (by omega) okU
    have man:manT U = true:=by
     refine man_iff.2 ⟨?_,fun x hx=>?_⟩
     ·have f0:=PT.few 0 (by omega)
      have f1:=PT.few 1 (by omega)
      have f2:=PT.few 2 (by omega)
      have f3:=PT.few 3 (by omega)
      have f4:=PT.few 4 (by omega)
      have f5:U.fr.length * 14≤65536:=by rw [PT.cop.fr]; omega
      have f6:=PT.few 6 (by omega)
      have f7:=PT.few 7 (by omega)
      have f8:=PT.few 8 (by omega)
      have f9:=PT.few 9 (by omega)
      simp only [lenP] at f0 f1 f2 f3 f4 f6 f7 f8 f9
      unfold manN
      omega
     ·have:=PT.fewc x hx
      unfold clT
      omega
    have ln:LnTt U:=by
     have h:=(man_iff.1 man).1
     unfold manN at h
     unfold LnTt
     omega
    have CC:=ckM a c U wr man okU.1 ln (hX wr (fun i r h=>G.row h))
    rw [PT.cop.ttC] at CC
    have r0:wr.heap[w.heap.size]? = some (.cells zT 36 (0,0)):=(G.base.block _ HR.out.2.1).trans HR.out.1
    obtain ⟨q0,q1,q2,q3,q4,q5,q6,q7,q8,q9,q10,q11,q12⟩:=tcells hrg
    by_cases hc:(ttC r.T).2.2 = 0
    ·have hf2:feedP F_ s = (r.T,0,0):=by rw [HFE.out,hgo,if_neg (fun q=>q rfl),if_neg (fun q=>q hc)]
     rw [hc] at CC
     have CC:=Lib.hid CC
     generalize (ttC r.T).1 = t1 at CC
     generalize (ttC r.T).2.1 = t2 at CC
     have HG:=Lib.hid (And.intro hrg (And.intro r0 G))
     clear hrg hg hgo hfr LI I0 P e1 L hcl r0 G
     go_wp2_with fail
     refine CC.out.mono ?_
     rintro e w4 ⟨rfl,hb4⟩
     clear q0 q1 q2 q3 q4 q5 q6 q7 q8 q9 q10 q11 q12
     have G4:=HG.out.2.2.on hb4
     have r4:w4.heap[w.heap.size]? = some (.cells zT 36 (0,0)):=(hb4.block _ (Nat.lt_of_lt_of_le HR.out.2.1 HG.out.2.2.base.size)).trans HG.out.2.1
     obtain ⟨q0,q1,q2,q3,q4,q5,q6,q7,q8,q9,q10,q11,q12⟩:=tcells (w:=w4) (F:=F) (a:=a) (c:=c) (U:=U) (fun j v hj=>by
      rw [← HG.out.1 j v hj]
      unfold World.cell?
      rw [hb4.block F HG.out.2.2.lt])
     obtain ⟨y0,z0,x0,y1,z1,x1,y2,z2,x2,y3,z3,x3,y4,z4,x4,y5,z5,x5,y6,z6,x6,y7,z7,x7,y8,z8,x8,y9,z9,x9,y10,z10,x10,y11,z11,x11,y12,z12,x12⟩:=zcells r4
     clear x0 x1 x2 x3 x4 x5 x6 x7 x8 x9 x10 x11 x12
     go_wp2_with fail
     have g5:=setCells_grown w.heap.size [.slice (a 0) U.st.length (c 0),.slice (a 1) U.ro.length (c 1),.slice (a 2) U.ca.length (c 2),.slice (a 3) U.ex.length (c 3),.slice (a 4) U.tr.length (c 4),.slice (a 5) U.fr.length (c 5),.slice (a 6) U.th.length (c 6),.slice (a 7) U.gu.length (c 7),.slice (a 8) U.pa.length (c 8),.slice (a 9) U.pr.length (c 9),.int .i64 U.di,.int .i64 U.wi,.int .i64 U.cp] 0 w4
     have s5:=set13 r4 (.slice (a 0) U.st.length (c 0)) (.slice (a 1) U.ro.length (c 1)) (.slice (a 2) U.ca.length (c 2)) (.slice (a 3) U.ex.length (c 3)) (.slice (a 4) U.tr.length (c 4)) (.slice (a 5) U.fr.length (c 5)) (.slice (a 6) U.th.length (c 6)) (.slice (a 7) U.gu.length (c 7)) (.slice (a 8) U.pa.length (c 8)) (.slice (a 9) U.pr.length (c 9)) (.int .i64 U.di) (.int .i64 U.wi) (.int .i64 U.cp)
     simp only [World.setCells,Nat.zero_add,Nat.reduceAdd] at g5 s5
     have T5:=hX _ (Gst.rows G4 g5 HR.out.2.1)
     have B5:=grown_up (HR.out.2.2.1.trans (G4.base.mono (by have:=HR.out.2.1; omega))) g5 (fun k e=>by cases e; exact Nat.le_refl _)
     (try simp only [Exit.inBlock,Exit.then]); refine bodyPost_ret (results_cell2 rfl _ _ w.heap.size 36 (csT a c U) (0,0) _ rfl s5 Tryz.underlying36 rfl size_tt) rfl ?_
     exact HZ.out _ _ ⟨a,c,U,by rw [hf2]; rfl,by rw [hf2]; exact PT.cop,T5,man,okU.1,ln,B5⟩
    ·obtain ⟨p,hp,ep,hw⟩:=whr_look iv hc
     have hf2:feedP F_ s = (T0,whr r (ttC r.T).1 (ttC r.T).2.1,(ttC r.T).2.2):=by rw [HFE.out,hgo,if_neg (fun q=>q rfl),if_pos hc]
     obtain ⟨y,hy⟩:∃ y,whr r (ttC r.T).1 (ttC r.T).2.1 = y:=⟨_,rfl⟩
     rw [hy] at hw hf2
     rw [ep] at CC
     clear hy
     generalize (ttC r.T).2.1 = t2 at CC hw hf2
     generalize (ttC r.T).2.2 = t3 at CC hc hf2
     have CC:=Lib.hid CC
     have LO:=Lib.hid (fun w4 (hb4:Below wr.heap.size wr w4)=>lof_any (P.on hb4) (HK.out.below (HR.out.2.2.1.trans ((P.on hb4).low.mono (by have:=HR.out.2.1; omega)))) p hp t2 y hw)
     have HP:=Lib.hid (fun w' (b:Below w.heap.size w w')=>PaR.err (w:=w) (w':=w') hf2 b)
     have HG:=Lib.hid (And.intro r0 G.base)
     clear hrg hg hgo hfr LI I0 P e1 L hcl r0 G hw hf2 man ln okU hX PT ok iv
     go_wp2_with fail
     refine CC.out.mono ?_
     rintro e w4 ⟨rfl,hb4⟩
     clear q0 q1 q2 q3 q4 q5 q6 q7 q8 q9 q10 q11 q12
     have LO:=Lib.hid (LO.out w4 hb4)
     have hl:=HG.out.2.size
     have r4:w4.heap[w.heap.size]? = some (.cells zT 36 (0,0)):=(hb4.block _ (Nat.lt_of_lt_of_le HR.out.2.1 hl)).trans HG.out.1
     have B4:Below w.heap.size w w4:=HR.out.2.2.1.trans ((HG.out.2.trans (hb4.mono hl)).mono (by have:=HR.out.2.1; omega))
     have H4:=Lib.hid (And.intro r4 (And.intro B4 (Nat.lt_of_lt_of_le HR.out.2.1 (Nat.le_trans hl hb4.size))))
     clear r4 B4 hl hb4
     go_wp2_with fail
     refine LO.out.mono ?_
     rintro e w5 ⟨rfl,hb5⟩
     have r5:w5.heap[w.heap.size]? = some (.cells zT 36 (0,0)):=(hb5.block _ H4.out.2.2).trans H4.out.1
     have R1:=Lib.hid (HZ.out _ _ (HP.out w5 (H4.out.2.1.trans (hb5.mono (Nat.le_of_lt H4.out.2.2)))))
     obtain ⟨y0,z0,x0,y1,z1,x1,y2,z2,x2,y3,z3,x3,y4,z4,x4,y5,z5,x5,y6,z6,x6,y7,z7,x7,y8,z8,x8,y9,z9,x9,y10,z10,x10,y11,z11,x11,y12,z12,x12⟩:=zcells r5
     clear LO hb5
     go_wp2_with fail
     (try simp only [Exit.inBlock,Exit.then]); refine bodyPost_ret (results_cell2 rfl _ _ w.heap.size 36 zT (0,0) _ rfl r5 Tryz.underlying36 rfl size_tt) rfl ?_
     exact R1.out
 ·have hfe:feedP F_ s = (T0,0,z):=by unfold feedP; rw [hz,if_pos h0]
  generalize str s = ss at C0 ⊢
  go_enter Tryz.func10,Tryz.ntmps10
  go_wp2_with fail
  refine C0.out.mono ?_
  rintro q w1 ⟨v,rfl,ho,hb⟩
  dsimp only at ho ⊢
  obtain ⟨A0,c0,rfl,-⟩:=ownK_shape ho
  have r0:w1.heap[w.heap.size]? = some (.cells zT 36 (0,0)):=(hb.block _ (by omega)).trans ha
  have B1:Below w.heap.size w w1:=ba.trans (hb.mono (by omega))
  have R1:=Lib.hid (HZ.out _ _ (PaR.err hfe B1))
  clear C0 ho hb B1 ba ha hla hwa
  obtain ⟨y0,z0,x0,y1,z1,x1,y2,z2,x2,y3,z3,x3,y4,z4,x4,y5,z5,x5,y6,z6,x6,y7,z7,x7,y8,z8,x8,y9,z9,x9,y10,z10,x10,y11,z11,x11,y12,z12,x12⟩:=zcells r0
  go_wp2_with fail
  (try simp only [Exit.inBlock,Exit.then]); refine bodyPost_ret (results_cell2 rfl _ _ w.heap.size 36 zT (0,0) _ rfl r0 Tryz.underlying36 rfl hzT) rfl ?_
  exact R1.out
end Go.Proofs.YtpifdbphmnifdaaGreatDoor
namespace Go.Proofs.YtpifdbphmnifdaaGreatDoor.S1
open Go.RowKit
theorem ne_nil (s:ByteArray) (h:0 < s.size):s.toList.isEmpty = false:=by
 rw [Lib.toList_data]
 have:s.data.toList.length = s.size:=rfl
 cases hl:s.data.toList with
 | nil=>rw [hl] at this; simp at this; omega
 | cons a t=>rfl
theorem isPos_nil (s:ByteArray) (h:s.size = 0) (w:World) :
  Calls Tryz.prog 356 #[.string s] w fun e w'=>e = .returned (.bool false)∧Below w.heap.size w w':=by
 obtain rfl:s = ⟨#[]⟩:=by
  obtain ⟨⟨l⟩⟩:=s
  have:l.length = 0:=h
  cases l with
  | nil=>rfl
  | cons a t=>simp at this
 go_enter Tryz.func356,Tryz.ntmps356
 go_wp2_with fail
 go_ret
 exact ⟨rfl,Below.refl _ _⟩
theorem isPos_zero (s:ByteArray) (h:0 < s.size) (h0:s[0].toNat = 48) (w:World) :
  Calls Tryz.prog 356 #[.string s] w fun e w'=>e = .returned (.bool false)∧Below w.heap.size w w':=by
 have hn:=ne_nil s h
 have k0:∀ W,(Instr.index 9 (.string s) (.int .i64 0)).run Tryz.prog W = .ok (.int .u8 s[0].toNat) W:=run_at s 0 h
 have c0:(((s[0].toNat:Nat):Int) != 48) = false:=by rw [h0]; rfl
 clear h0
 go_enter Tryz.func356,Tryz.ntmps356
 go_wp2_with fail
 go_ret
 exact ⟨rfl,Below.refl _ _⟩
theorem isPos_digs (s:ByteArray) (h:0 < s.size) (h0:s[0].toNat≠48) (hd:digs s.data.toList = false) (w:World) :
  Calls Tryz.prog 356 #[.string s] w fun e w'=>e = .returned (.bool false)∧Below w.heap.size w w':=by
 have hn:=ne_nil s h
 have k0:∀ W,(Instr.index 9 (.string s) (.int .i64 0)).run Tryz.prog W = .ok (.int .u8 s[0].toNat) W:=run_at s 0 h
 have c0:(((s[0].toNat:Nat):Int) != 48) = true:=bne_true (by omega)
 have HD:=Lib.hid hd
 clear h0 hd
 go_enter Tryz.func356,Tryz.ntmps356
 go_wp2_with fail
 refine (allDigits_no s HD.out _).mono ?_
 rintro e w1 ⟨rfl,b1⟩
 go_wp2_with fail
 go_ret
 exact ⟨rfl,b1⟩
theorem isPos_ok (s:ByteArray) (h:0 < s.size) (h0:s[0].toNat≠48) (hd:digs s.data.toList = true) (w:World) :
  Calls Tryz.prog 356 #[.string s] w fun e w'=>e = .returned (.bool true)∧Below w.heap.size w w':=by
 have hn:=ne_nil s h
 have k0:∀ W,(Instr.index 9 (.string s) (.int .i64 0)).run Tryz.prog W = .ok (.int .u8 s[0].toNat) W:=run_at s 0 h
 have c0:(((s[0].toNat:Nat):Int) != 48) = true:=bne_true (by omega)
 have HD:=Lib.hid hd
 clear h0 hd
 go_enter Tryz.func356,Tryz.ntmps356
 go_wp2_with fail
 refine (allDigits_yes s HD.out _).mono ?_
 rintro e w1 ⟨rfl,b1⟩
 go_wp2_with fail
 go_ret
 exact ⟨rfl,b1⟩
theorem isPos_any (l:List UInt8) (w:World) :
  Calls Tryz.prog 356 #[.string (str l)] w fun e w'=>e = .returned (.bool (posD l))∧Below w.heap.size w w':=by
 have hz:=size_str l
 cases l with
 | nil=>exact isPos_nil _ hz w
 | cons c t =>
  have h:0 < (str (c :: t)).size:=by rw [hz]; simp
  have hc:(str (c :: t))[0] = c:=rfl
  by_cases h0:c.toNat = 48
  ·obtain rfl:c = 48:=UInt8.toNat_inj.1 h0
   have hp:posD (48 :: t) = false:=by unfold posD; simp
   rw [hp]
   exact isPos_zero _ h h0 w
  ·have hne:c≠48:=fun hx=>h0 (by rw [hx]; rfl)
   cases hd:digs (c :: t) with
   | false =>
    have hp:posD (c :: t) = false:=by unfold posD; rw [hd]; simp
    rw [hp]
    exact isPos_digs _ h h0 hd w
   | true =>
    have hp:posD (c :: t) = true:=(posD_iff _).2 ⟨by simp,by simp [hne],hd⟩
    rw [hp]
    exact isPos_ok _ h h0 hd w
theorem value_str (l:List UInt8) (hd:digs l = true) (hl:l.length≤6) (w:World) :
  Calls Tryz.prog 322 #[.string (str l)] w fun e w'=>e = .returned (.int .i64 (valN l))∧Below w.heap.size w w' :=
 value_any (str l) hd (by rw [size_str]; exact hl) w
theorem later_len (l:List UInt8) (h:l.length≠2) (w:World) :
  Calls Tryz.prog 355 #[.string (str l)] w fun e w'=>e = .returned (.tuple #[.int .i64 0,.bool false])∧Below w.heap.size w w':=by
 have hz:=size_str l
 have c0:(((str l).size:Int) != 2) = true:=bne_true (by omega)
 clear hz h
 generalize str l = s at c0 ⊢
 go_enter Tryz.func355,Tryz.ntmps355
 go_wp2_with fail
 go_ret2
 exact ⟨rfl,Below.refl _ _⟩
theorem later_digs (l:List UInt8) (h:l.length = 2) (hd:digs l = false) (w:World) :
  Calls Tryz.prog 355 #[.string (str l)] w fun e w'=>e = .returned (.tuple #[.int .i64 0,.bool false])∧Below w.heap.size w w':=by
 have hz:=size_str l
 have c0:(((str l).size:Int) != 2) = false:=by rw [hz,h]; rfl
 have HC:=Lib.hid (allDigits_no (str l) hd)
 clear hz h hd
 generalize str l = s at c0 HC ⊢
 go_enter Tryz.func355,Tryz.ntmps355
 go_wp2_with fail
 refine (HC.out _).mono ?_
 rintro e w1 ⟨rfl,b1⟩
 go_wp2_with fail
 go_ret2
 exact ⟨rfl,b1⟩
theorem later_big (l:List UInt8) (h:l.length = 2) (hd:digs l = true) (hv:¬ valN l < 60) (w:World) :
  Calls Tryz.prog 355 #[.string (str l)] w fun e w'=>e = .returned (.tuple #[.int .i64 0,.bool false])∧Below w.heap.size w w':=by
 have hz:=size_str l
 have c0:(((str l).size:Int) != 2) = false:=by rw [hz,h]; rfl
 have HC:=Lib.hid (allDigits_yes (str l) hd)
 have HV:=Lib.hid (value_str l hd (by omega))
 clear hz h hd
 generalize str l = s at c0 HC HV ⊢
 go_enter Tryz.func355,Tryz.ntmps355
 go_wp2_with fail
 refine (HC.out _).mono ?_
 rintro e w1 ⟨rfl,b1⟩
 go_wp2_with fail
 refine (HV.out _).mono ?_
 rintro e w2 ⟨rfl,b2⟩
 go_wp2_with fail
 refine (sixtieth_no _ (by omega) _).mono ?_
 rintro e w3 ⟨rfl,rfl⟩
 go_wp2_with fail
 go_ret2
 exact ⟨rfl,b1.trans (b2.mono b1.size)⟩
theorem later_ok (l:List UInt8) (h:l.length = 2) (hd:digs l = true) (hv:valN l < 60) (w:World) :
  Calls Tryz.prog 355 #[.string (str l)] w fun e w'=>e = .returned (.tuple #[.int .i64 (valN l),.bool true])∧Below w.heap.size w w':=by
 have hz:=size_str l
 have c0:(((str l).size:Int) != 2) = false:=by rw [hz,h]; rfl
 have HC:=Lib.hid (allDigits_yes (str l) hd)
 have HV:=Lib.hid (value_str l hd (by omega))
 clear hz h hd
 generalize str l = s at c0 HC HV ⊢
 go_enter Tryz.func355,Tryz.ntmps355
 go_wp2_with fail
 refine (HC.out _).mono ?_
 rintro e w1 ⟨rfl,b1⟩
 go_wp2_with fail
 refine (HV.out _).mono ?_
 rintro e w2 ⟨rfl,b2⟩
 go_wp2_with fail
 refine (sixtieth_yes _ (by omega) (by omega) _).mono ?_
 rintro e w3 ⟨rfl,rfl⟩
 go_wp2_with fail
 refine (HV.out _).mono ?_
 rintro e w4 ⟨rfl,b4⟩
 go_wp2_with fail
 go_ret2
 exact ⟨rfl,b1.trans ((b2.trans (b4.mono b2.size)).mono b1.size)⟩
theorem later_no (l:List UInt8) (h:laterD l = false) (w:World) :
  Calls Tryz.prog 355 #[.string (str l)] w fun e w'=>e = .returned (.tuple #[.int .i64 0,.bool false])∧Below w.heap.size w w':=by
 by_cases h2:l.length = 2
 ·cases hd:digs l with
  | false=>exact later_digs l h2 hd w
  | true =>
   by_cases hv:valN l < 60
   ·rw [(laterD_iff l).2 ⟨h2,hd,hv⟩] at h; cases h
   ·exact later_big l h2 hd hv w
 ·exact later_len l h2 w
theorem later_yes (l:List UInt8) (h:laterD l = true) (w:World) :
  Calls Tryz.prog 355 #[.string (str l)] w fun e w'=>e = .returned (.tuple #[.int .i64 (valN l),.bool true])∧Below w.heap.size w w':=by
 obtain ⟨h2,hd,hv⟩:=(laterD_iff l).1 h
 exact later_ok l h2 hd hv w
theorem first_pos (l:List UInt8) (h:posD l = false) (w:World) :
  Calls Tryz.prog 325 #[.string (str l)] w fun e w'=>e = .returned (.tuple #[.int .i64 0,.bool false])∧Below w.heap.size w w':=by
 have hc:=isPos_any l
 rw [h] at hc
 have HC:=Lib.hid hc
 clear hc h
 generalize str l = s at HC ⊢
 go_enter Tryz.func325,Tryz.ntmps325
 go_wp2_with fail
 refine (HC.out _).mono ?_
 rintro e w1 ⟨rfl,b1⟩
 go_wp2_with fail
 go_ret2
 exact ⟨rfl,b1⟩
theorem first_len (l:List UInt8) (h:posD l = true) (hl:¬ l.length≤2) (w:World) :
  Calls Tryz.prog 325 #[.string (str l)] w fun e w'=>e = .returned (.tuple #[.int .i64 0,.bool false])∧Below w.heap.size w w':=by
 have hc:=isPos_any l
 rw [h] at hc
 have HC:=Lib.hid hc
 have hz:2 < (str l).size:=by rw [size_str]; omega
 have hi:(2:Int) < (str l).size:=by omega
 clear hc h hl
 generalize str l = s at HC hz hi ⊢
 go_enter Tryz.func325,Tryz.ntmps325
 go_wp2_with fail
 refine (HC.out _).mono ?_
 rintro e w1 ⟨rfl,b1⟩
 go_wp2_with fail
 go_ret2
 exact ⟨rfl,b1⟩
theorem first_big (l:List UInt8) (h:posD l = true) (hl:l.length≤2) (hv:¬ valN l < 60) (w:World) :
  Calls Tryz.prog 325 #[.string (str l)] w fun e w'=>e = .returned (.tuple #[.int .i64 0,.bool false])∧Below w.heap.size w w':=by
 have hc:=isPos_any l
 rw [h] at hc
 have HC:=Lib.hid hc
 have HV:=Lib.hid (value_str l ((posD_iff l).1 h).2.2 (by omega))
 have hz:¬ 2 < (str l).size:=by rw [size_str]; omega
 have hd:decide (2 < (str l).size) = false:=decide_eq_false hz
 have hi:¬ (2:Int) < (str l).size:=by omega
 have hj:decide ((2:Int) < (str l).size) = false:=decide_eq_false hi
 clear hc h hl
 generalize str l = s at HC HV hz hi hd hj ⊢
 go_enter Tryz.func325,Tryz.ntmps325
 go_wp2_with fail
 refine (HC.out _).mono ?_
 rintro e w1 ⟨rfl,b1⟩
 go_wp2_with fail
 refine (HV.out _).mono ?_
 rintro e w2 ⟨rfl,b2⟩
 go_wp2_with fail
 refine (sixtieth_no _ (by omega) _).mono ?_
 rintro e w3 ⟨rfl,rfl⟩
 go_wp2_with fail
 go_ret2
 exact ⟨rfl,b1.trans (b2.mono b1.size)⟩
theorem first_ok (l:List UInt8) (h:posD l = true) (hl:l.length≤2) (hv:valN l < 60) (w:World) :
  Calls Tryz.prog 325 #[.string (str l)] w fun e w'=>e = .returned (.tuple #[.int .i64 (valN l),.bool true])∧Below w.heap.size w w':=by
 have hc:=isPos_any l
 rw [h] at hc
 have HC:=Lib.hid hc
 have HV:=Lib.hid (value_str l ((posD_iff l).1 h).2.2 (by omega))
 have hz:¬ 2 < (str l).size:=by rw [size_str]; omega
 have hd:decide (2 < (str l).size) = false:=decide_eq_false hz
 have hi:¬ (2:Int) < (str l).size:=by omega
 have hj:decide ((2:Int) < (str l).size) = false:=decide_eq_false hi
 clear hc h hl
 generalize str l = s at HC HV hz hi hd hj ⊢
 go_enter Tryz.func325,Tryz.ntmps325
 go_wp2_with fail
 refine (HC.out _).mono ?_
 rintro e w1 ⟨rfl,b1⟩
 go_wp2_with fail
 refine (HV.out _).mono ?_
 rintro e w2 ⟨rfl,b2⟩
 go_wp2_with fail
 refine (sixtieth_yes _ (by omega) (by omega) _).mono ?_
 rintro e w3 ⟨rfl,rfl⟩
 go_wp2_with fail
 refine (HV.out _).mono ?_
 rintro e w4 ⟨rfl,b4⟩
 go_wp2_with fail
 go_ret2
 exact ⟨rfl,b1.trans ((b2.trans (b4.mono b2.size)).mono b1.size)⟩
theorem first_no (l:List UInt8) (h:firstD l = false) (w:World) :
  Calls Tryz.prog 325 #[.string (str l)] w fun e w'=>e = .returned (.tuple #[.int .i64 0,.bool false])∧Below w.heap.size w w':=by
 cases hp:posD l with
 | false=>exact first_pos l hp w
 | true =>
  by_cases h2:l.length≤2
  ·by_cases hv:valN l < 60
   ·rw [(firstD_iff l).2 ⟨hp,h2,hv⟩] at h; cases h
   ·exact first_big l hp h2 hv w
  ·exact first_len l hp h2 w
theorem first_yes (l:List UInt8) (h:firstD l = true) (w:World) :
  Calls Tryz.prog 325 #[.string (str l)] w fun e w'=>e = .returned (.tuple #[.int .i64 (valN l),.bool true])∧Below w.heap.size w w':=by
 obtain ⟨hp,h2,hv⟩:=(firstD_iff l).1 h
 exact first_ok l hp h2 hv w
theorem later_any (l:List UInt8):∃ v:Int,0≤v∧v < 60∧(laterD l = true→v = valN l)∧∀ w:World,
  Calls Tryz.prog 355 #[.string (str l)] w fun e w'=>e = .returned (.tuple #[.int .i64 v,.bool (laterD l)])∧Below w.heap.size w w':=by
 cases h:laterD l with
 | false=>exact ⟨0,by omega,by omega,(fun hx=>by cases hx),later_no l h⟩
 | true=>exact ⟨valN l,by omega,by have:=((laterD_iff l).1 h).2.2; omega,fun _=>rfl,later_yes l h⟩
theorem first_any (l:List UInt8):∃ v:Int,0≤v∧v < 60∧(firstD l = true→v = valN l)∧∀ w:World,
  Calls Tryz.prog 325 #[.string (str l)] w fun e w'=>e = .returned (.tuple #[.int .i64 v,.bool (firstD l)])∧Below w.heap.size w w':=by
 cases h:firstD l with
 | false=>exact ⟨0,by omega,by omega,(fun hx=>by cases hx),first_no l h⟩
 | true=>exact ⟨valN l,by omega,by have:=((firstD_iff l).1 h).2.2; omega,fun _=>rfl,first_yes l h⟩
def hRes (found mok sok pos big:Bool) (v m s:Int):Int × Int :=
 if found && mok && sok && pos then (if big then (0,2) else (v * 3600 + m * 60 + s,0)) else (0,3)
theorem hours_core (hs ts ms ss:ByteArray) (found mok sok pos big:Bool) (m s:Int) (m0:0≤m) (m1:m < 60) (s0:0≤s) (s1:s < 60) (v:Int) (v0:0≤v) (v1:v≤99)
  (hc:∀ w:World,Calls Tryz.prog 245 #[.string ts,.string ⟨#[109]⟩] w fun e w'=>e = .returned (.tuple #[.string ms,.string ss,.bool found])∧Below w.heap.size w w')
  (hm:∀ w:World,Calls Tryz.prog 355 #[.string ms] w fun e w'=>e = .returned (.tuple #[.int .i64 m,.bool mok])∧Below w.heap.size w w')
  (hz:∀ w:World,Calls Tryz.prog 355 #[.string ss] w fun e w'=>e = .returned (.tuple #[.int .i64 s,.bool sok])∧Below w.heap.size w w')
  (hp:∀ w:World,Calls Tryz.prog 356 #[.string hs] w fun e w'=>e = .returned (.bool pos)∧Below w.heap.size w w')
  (hb:big = true→(2:Int) < (hs.size:Int)) (hl:big = false→¬ (2:Int) < (hs.size:Int))
  (hv:pos = true→big = false→∀ w:World,Calls Tryz.prog 322 #[.string hs] w fun e w'=>e = .returned (.int .i64 v)∧Below w.heap.size w w') (w:World) :
  Calls Tryz.prog 323 #[.string hs,.string ts] w fun e w' =>
   e = .returned (.tuple #[.int .i64 (hRes found mok sok pos big v m s).1,.int .i64 (hRes found mok sok pos big v m s).2])∧Below w.heap.size w w':=by
 have HC:=Lib.hid hc
 have HM:=Lib.hid hm
 have HZ:=Lib.hid hz
 have HP:=Lib.hid hp
 have HV:=Lib.hid hv
 have HB:=Lib.hid hb
 have HL:=Lib.hid hl
 clear hc hm hz hp hv hb hl
 cases found
 ·go_enter Tryz.func323,Tryz.ntmps323
  go_wp2_with fail
  refine (HC.out _).mono ?_
  rintro e w1 ⟨rfl,b1⟩
  go_wp2_with fail
  refine (HM.out _).mono ?_
  rintro e w2 ⟨rfl,b2⟩
  go_wp2_with fail
  refine (HZ.out _).mono ?_
  rintro e w3 ⟨rfl,b3⟩
  go_wp2_with fail
  go_ret2
  exact ⟨rfl,b1.trans ((b2.trans (b3.mono b2.size)).mono b1.size)⟩
 cases mok
 ·go_enter Tryz.func323,Tryz.ntmps323
  go_wp2_with fail
  refine (HC.out _).mono ?_
  rintro e w1 ⟨rfl,b1⟩
  go_wp2_with fail
  refine (HM.out _).mono ?_
  rintro e w2 ⟨rfl,b2⟩
  go_wp2_with fail
  refine (HZ.out _).mono ?_
  rintro e w3 ⟨rfl,b3⟩
  go_wp2_with fail
  go_ret2
  exact ⟨rfl,b1.trans ((b2.trans (b3.mono b2.size)).mono b1.size)⟩
 cases sok
 ·go_enter Tryz.func323,Tryz.ntmps323
  go_wp2_with fail
  refine (HC.out _).mono ?_
  rintro e w1 ⟨rfl,b1⟩
  go_wp2_with fail
  refine (HM.out _).mono ?_
  rintro e w2 ⟨rfl,b2⟩
  go_wp2_with fail
  refine (HZ.out _).mono ?_
  rintro e w3 ⟨rfl,b3⟩
  go_wp2_with fail
  go_ret2
  exact ⟨rfl,b1.trans ((b2.trans (b3.mono b2.size)).mono b1.size)⟩
 cases pos
 ·go_enter Tryz.func323,Tryz.ntmps323
  go_wp2_with fail
  refine (HC.out _).mono ?_
  rintro e w1 ⟨rfl,b1⟩
  go_wp2_with fail
  refine (HM.out _).mono ?_
  rintro e w2 ⟨rfl,b2⟩
  go_wp2_with fail
  refine (HZ.out _).mono ?_
  rintro e w3 ⟨rfl,b3⟩
  go_wp2_with fail
  refine (HP.out _).mono ?_
  rintro e w4 ⟨rfl,b4⟩
  go_wp2_with fail
  go_ret2
  exact ⟨rfl,(b1.trans (b2.mono b1.size)).trans ((b3.trans (b4.mono b3.size)).mono (Nat.le_trans b1.size b2.size))⟩
 cases big
 ·have i2:=HL.out rfl
  have HW:=Lib.hid (HV.out rfl rfl)
  clear HV
  go_enter Tryz.func323,Tryz.ntmps323
  go_wp2_with fail
  refine (HC.out _).mono ?_
  rintro e w1 ⟨rfl,b1⟩
  go_wp2_with fail
  refine (HM.out _).mono ?_
  rintro e w2 ⟨rfl,b2⟩
  go_wp2_with fail
  refine (HZ.out _).mono ?_
  rintro e w3 ⟨rfl,b3⟩
  go_wp2_with fail
  refine (HP.out _).mono ?_
  rintro e w4 ⟨rfl,b4⟩
  go_wp2_with fail
  refine (HW.out _).mono ?_
  rintro e w5 ⟨rfl,b5⟩
  go_wp2_with fail
  refine (combine_any _ _ _ (by omega) (by omega) (by omega) (by omega) (by omega) (by omega) _).mono ?_
  rintro e w6 ⟨rfl,rfl⟩
  go_wp2_with fail
  go_ret2
  exact ⟨rfl,((b1.trans (b2.mono b1.size)).trans ((b3.trans (b4.mono b3.size)).mono (Nat.le_trans b1.size b2.size))).trans (b5.mono (Nat.le_trans (Nat.le_trans b1.size b2.size) (Nat.le_trans b3.size b4.size)))⟩
 ·have i2:=HB.out rfl
  go_enter Tryz.func323,Tryz.ntmps323
  go_wp2_with fail
  refine (HC.out _).mono ?_
  rintro e w1 ⟨rfl,b1⟩
  go_wp2_with fail
  refine (HM.out _).mono ?_
  rintro e w2 ⟨rfl,b2⟩
  go_wp2_with fail
  refine (HZ.out _).mono ?_
  rintro e w3 ⟨rfl,b3⟩
  go_wp2_with fail
  refine (HP.out _).mono ?_
  rintro e w4 ⟨rfl,b4⟩
  go_wp2_with fail
  go_ret2
  exact ⟨rfl,(b1.trans (b2.mono b1.size)).trans ((b3.trans (b4.mono b3.size)).mono (Nat.le_trans b1.size b2.size))⟩
theorem valN_two (l:List UInt8) (hd:digs l = true) (h:l.length≤2):valN l≤99:=by
 have h1:=valN_lt l hd
 have h2:10 ^ l.length≤10 ^ 2:=Nat.pow_le_pow_right (by decide) h
 omega
theorem hours_any (H T:List UInt8) (hl:T.length≤9223372036854775807) (w:World) :
  Calls Tryz.prog 323 #[.string (str H),.string (str T)] w fun e w'=>e = .returned (.tuple #[.int .i64 (hoursR H T).1,.int .i64 (hoursR H T).2])∧Below w.heap.size w w':=by
 have hz:=size_str H
 have hsz:∀ b:Bool,b = decide (2 < H.length)→(b = true→(2:Int) < ((str H).size:Int))∧(b = false→¬ (2:Int) < ((str H).size:Int)):=by
  intro b hb
  subst hb
  rw [hz]
  simp
  omega
 by_cases h:109∈T
 ·obtain ⟨M,S,rfl,hn,e1,e2⟩:=split_at 109 T h
  obtain ⟨m,m0,m1,me,cm⟩:=later_any M
  obtain ⟨s,s0,s1,se,cs⟩:=later_any S
  have key:=hours_core (str H) (str (M ++ 109 :: S)) (str M) (str S) true (laterD M) (laterD S) (posD H) (decide (2 < H.length)) m s m0 m1 s0 s1 (if posD H = true∧H.length≤2 then valN H else 0)
   (by split <;> omega) (by split; · have:=valN_two H ((posD_iff H).1 (by simp_all)).2.2 (by simp_all); omega
                            ·omega)
   (cut_hit 109 M S hn hl) cm cs (isPos_any H) (hsz _ rfl).1 (hsz _ rfl).2
   (fun hp hb=>by
    have hb2:H.length≤2:=by simpa using hb
    rw [if_pos ⟨hp,hb2⟩]
    exact value_str H ((posD_iff H).1 hp).2.2 (by omega)) w
  have e:hRes true (laterD M) (laterD S) (posD H) (decide (2 < H.length)) (if posD H = true∧H.length≤2 then valN H else 0) m s = hoursR H (M ++ 109 :: S):=by
   unfold hRes hoursR
   rw [e1,e2]
   cases hM:laterD M with
   | false=>simp
   | true =>
    cases hS:laterD S with
    | false=>simp
    | true =>
     cases hP:posD H with
     | false=>simp
     | true =>
      rw [me hM,se hS]
      by_cases h2:2 < H.length
      ·simp [h2]
      ·simp [h2,show H.length≤2 by omega]
  rw [e] at key
  exact key
 ·obtain ⟨m,m0,m1,_,cm⟩:=later_any T
  obtain ⟨s,s0,s1,_,cs⟩:=later_any []
  have key:=hours_core (str H) (str T) (str T) (str []) false (laterD T) (laterD []) (posD H) (decide (2 < H.length)) m s m0 m1 s0 s1 (if posD H = true∧H.length≤2 then valN H else 0)
   (by split <;> omega) (by split; · have:=valN_two H ((posD_iff H).1 (by simp_all)).2.2 (by simp_all); omega
                            ·omega)
   (cut_miss 109 T h) cm cs (isPos_any H) (hsz _ rfl).1 (hsz _ rfl).2
   (fun hp hb=>by
    have hb2:H.length≤2:=by simpa using hb
    rw [if_pos ⟨hp,hb2⟩]
    exact value_str H ((posD_iff H).1 hp).2.2 (by omega)) w
  have e:hRes false (laterD T) (laterD []) (posD H) (decide (2 < H.length)) (if posD H = true∧H.length≤2 then valN H else 0) m s = hoursR H T:=by
   unfold hRes hoursR
   simp [h]
  rw [e] at key
  exact key
def mRes (mok sok:Bool) (m s:Int):Int × Int:=if mok && sok then (m * 60 + s,0) else (0,3)
theorem minutes_core (ms ss:ByteArray) (mok sok:Bool) (m s:Int) (m0:0≤m) (m1:m < 60) (s0:0≤s) (s1:s < 60)
  (hm:∀ w:World,Calls Tryz.prog 325 #[.string ms] w fun e w'=>e = .returned (.tuple #[.int .i64 m,.bool mok])∧Below w.heap.size w w')
  (hz:∀ w:World,Calls Tryz.prog 355 #[.string ss] w fun e w'=>e = .returned (.tuple #[.int .i64 s,.bool sok])∧Below w.heap.size w w') (w:World) :
  Calls Tryz.prog 324 #[.string ms,.string ss] w fun e w'=>e = .returned (.tuple #[.int .i64 (mRes mok sok m s).1,.int .i64 (mRes mok sok m s).2])∧Below w.heap.size w w':=by
 have HM:=Lib.hid hm
 have HZ:=Lib.hid hz
 clear hm hz
 cases mok
 ·go_enter Tryz.func324,Tryz.ntmps324
  go_wp2_with fail
  refine (HM.out _).mono ?_
  rintro e w1 ⟨rfl,b1⟩
  go_wp2_with fail
  refine (HZ.out _).mono ?_
  rintro e w2 ⟨rfl,b2⟩
  go_wp2_with fail
  go_ret2
  exact ⟨rfl,b1.trans (b2.mono b1.size)⟩
 cases sok
 ·go_enter Tryz.func324,Tryz.ntmps324
  go_wp2_with fail
  refine (HM.out _).mono ?_
  rintro e w1 ⟨rfl,b1⟩
  go_wp2_with fail
  refine (HZ.out _).mono ?_
  rintro e w2 ⟨rfl,b2⟩
  go_wp2_with fail
  go_ret2
  exact ⟨rfl,b1.trans (b2.mono b1.size)⟩
 ·go_enter Tryz.func324,Tryz.ntmps324
  go_wp2_with fail
  refine (HM.out _).mono ?_
  rintro e w1 ⟨rfl,b1⟩
  go_wp2_with fail
  refine (HZ.out _).mono ?_
  rintro e w2 ⟨rfl,b2⟩
  go_wp2_with fail
  refine (combine_any 0 m s (by omega) (by omega) (by omega) (by omega) (by omega) (by omega) _).mono ?_
  rintro e w3 ⟨rfl,rfl⟩
  go_wp2_with fail
  go_ret2
  exact ⟨ret_two (by simp [mRes]) rfl,b1.trans (b2.mono b1.size)⟩
theorem minutes_any (M S:List UInt8) (w:World) :
  Calls Tryz.prog 324 #[.string (str M),.string (str S)] w fun e w'=>e = .returned (.tuple #[.int .i64 (minutesR M S).1,.int .i64 (minutesR M S).2])∧Below w.heap.size w w':=by
 obtain ⟨m,m0,m1,me,cm⟩:=first_any M
 obtain ⟨s,s0,s1,se,cs⟩:=later_any S
 have key:=minutes_core (str M) (str S) (firstD M) (laterD S) m s m0 m1 s0 s1 cm cs w
 have e:mRes (firstD M) (laterD S) m s = minutesR M S:=by
  unfold mRes minutesR
  cases hM:firstD M with
  | false=>simp
  | true =>
   cases hS:laterD S with
   | false=>simp
   | true=>rw [me hM,se hS]; simp
 rw [e] at key
 exact key
theorem pd_none (l:List UInt8) (hn:List.isSuffixOf [115] l = false) (hl:l.length≤9223372036854775807) (w:World) :
  Calls Tryz.prog 255 #[.string (str l)] w fun e w'=>e = .returned (.tuple #[.int .i64 0,.int .i64 3])∧Below w.heap.size w w':=by
 have HC:=Lib.hid (suffix_miss 115 l hn hl)
 clear hn hl
 generalize str l = s at HC ⊢
 go_enter Tryz.func255,Tryz.ntmps255
 go_wp2_with fail
 refine (HC.out _).mono ?_
 rintro e w1 ⟨rfl,rfl⟩
 go_wp2_with fail
 go_ret2
 exact ⟨rfl,Below.refl _ _⟩
theorem pd_h (s r H T:ByteArray) (v e0:Int)
  (hc:∀ w:World,Calls Tryz.prog 39 #[.string s,.string ⟨#[115]⟩] w fun e w'=>e = .returned (.tuple #[.string r,.bool true])∧w = w')
  (hh:∀ w:World,Calls Tryz.prog 245 #[.string r,.string ⟨#[104]⟩] w fun e w'=>e = .returned (.tuple #[.string H,.string T,.bool true])∧Below w.heap.size w w')
  (hp:∀ w:World,Calls Tryz.prog 323 #[.string H,.string T] w fun e w'=>e = .returned (.tuple #[.int .i64 v,.int .i64 e0])∧Below w.heap.size w w') (w:World) :
  Calls Tryz.prog 255 #[.string s] w fun e w'=>e = .returned (.tuple #[.int .i64 v,.int .i64 e0])∧Below w.heap.size w w':=by
 have HC:=Lib.hid hc
 have HH:=Lib.hid hh
 have HP:=Lib.hid hp
 clear hc hh hp
 go_enter Tryz.func255,Tryz.ntmps255
 go_wp2_with fail
 refine (HC.out _).mono ?_
 rintro e w1 ⟨rfl,rfl⟩
 go_wp2_with fail
 refine (HH.out _).mono ?_
 rintro e w1 ⟨rfl,b1⟩
 go_wp2_with fail
 refine (HP.out _).mono ?_
 rintro e w2 ⟨rfl,b2⟩
 go_wp2_with fail
 go_ret2
 exact ⟨rfl,b1.trans (b2.mono b1.size)⟩
theorem pd_m (s r M S:ByteArray) (v e0:Int)
  (hc:∀ w:World,Calls Tryz.prog 39 #[.string s,.string ⟨#[115]⟩] w fun e w'=>e = .returned (.tuple #[.string r,.bool true])∧w = w')
  (hh:∀ w:World,Calls Tryz.prog 245 #[.string r,.string ⟨#[104]⟩] w fun e w'=>e = .returned (.tuple #[.string r,.string (str []),.bool false])∧Below w.heap.size w w')
  (hm:∀ w:World,Calls Tryz.prog 245 #[.string r,.string ⟨#[109]⟩] w fun e w'=>e = .returned (.tuple #[.string M,.string S,.bool true])∧Below w.heap.size w w')
  (hp:∀ w:World,Calls Tryz.prog 324 #[.string M,.string S] w fun e w'=>e = .returned (.tuple #[.int .i64 v,.int .i64 e0])∧Below w.heap.size w w') (w:World) :
  Calls Tryz.prog 255 #[.string s] w fun e w'=>e = .returned (.tuple #[.int .i64 v,.int .i64 e0])∧Below w.heap.size w w':=by
 have HC:=Lib.hid hc
 have HH:=Lib.hid hh
 have HM:=Lib.hid hm
 have HP:=Lib.hid hp
 clear hc hh hm hp
 go_enter Tryz.func255,Tryz.ntmps255
 go_wp2_with fail
 refine (HC.out _).mono ?_
 rintro e w1 ⟨rfl,rfl⟩
 go_wp2_with fail
 refine (HH.out _).mono ?_
 rintro e w1 ⟨rfl,b1⟩
 go_wp2_with fail
 refine (HM.out _).mono ?_
 rintro e w2 ⟨rfl,b2⟩
 go_wp2_with fail
 refine (HP.out _).mono ?_
 rintro e w3 ⟨rfl,b3⟩
 go_wp2_with fail
 go_ret2
 exact ⟨rfl,b1.trans ((b2.trans (b3.mono b2.size)).mono b1.size)⟩
theorem pd_zero (s r:ByteArray) (h0:(r.toList == [48]) = true)
  (hc:∀ w:World,Calls Tryz.prog 39 #[.string s,.string ⟨#[115]⟩] w fun e w'=>e = .returned (.tuple #[.string r,.bool true])∧w = w')
  (hh:∀ w:World,Calls Tryz.prog 245 #[.string r,.string ⟨#[104]⟩] w fun e w'=>e = .returned (.tuple #[.string r,.string (str []),.bool false])∧Below w.heap.size w w')
  (hm:∀ w:World,Calls Tryz.prog 245 #[.string r,.string ⟨#[109]⟩] w fun e w'=>e = .returned (.tuple #[.string r,.string (str []),.bool false])∧Below w.heap.size w w') (w:World) :
  Calls Tryz.prog 255 #[.string s] w fun e w'=>e = .returned (.tuple #[.int .i64 0,.int .i64 0])∧Below w.heap.size w w':=by
 have HC:=Lib.hid hc
 have HH:=Lib.hid hh
 have HM:=Lib.hid hm
 clear hc hh hm
 go_enter Tryz.func255,Tryz.ntmps255
 go_wp2_with fail
 refine (HC.out _).mono ?_
 rintro e w1 ⟨rfl,rfl⟩
 go_wp2_with fail
 refine (HH.out _).mono ?_
 rintro e w1 ⟨rfl,b1⟩
 go_wp2_with fail
 refine (HM.out _).mono ?_
 rintro e w2 ⟨rfl,b2⟩
 go_wp2_with fail
 go_ret2
 exact ⟨rfl,b1.trans (b2.mono b1.size)⟩
theorem pd_s (s r:ByteArray) (h0:(r.toList == [48]) = false) (v:Int) (ok:Bool)
  (hc:∀ w:World,Calls Tryz.prog 39 #[.string s,.string ⟨#[115]⟩] w fun e w'=>e = .returned (.tuple #[.string r,.bool true])∧w = w')
  (hh:∀ w:World,Calls Tryz.prog 245 #[.string r,.string ⟨#[104]⟩] w fun e w'=>e = .returned (.tuple #[.string r,.string (str []),.bool false])∧Below w.heap.size w w')
  (hm:∀ w:World,Calls Tryz.prog 245 #[.string r,.string ⟨#[109]⟩] w fun e w'=>e = .returned (.tuple #[.string r,.string (str []),.bool false])∧Below w.heap.size w w')
  (hf:∀ w:World,Calls Tryz.prog 325 #[.string r] w fun e w'=>e = .returned (.tuple #[.int .i64 v,.bool ok])∧Below w.heap.size w w') (w:World) :
  Calls Tryz.prog 255 #[.string s] w fun e w'=>e = .returned (.tuple #[.int .i64 (bif ok then v else 0),.int .i64 (bif ok then 0 else 3)])∧Below w.heap.size w w':=by
 have HC:=Lib.hid hc
 have HH:=Lib.hid hh
 have HM:=Lib.hid hm
 have HF:=Lib.hid hf
 clear hc hh hm hf
 cases ok
 all_goals
  simp only [cond_true,cond_false]
  go_enter Tryz.func255,Tryz.ntmps255
  go_wp2_with fail
  refine (HC.out _).mono ?_
  rintro e w1 ⟨rfl,rfl⟩
  go_wp2_with fail
  refine (HH.out _).mono ?_
  rintro e w1 ⟨rfl,b1⟩
  go_wp2_with fail
  refine (HM.out _).mono ?_
  rintro e w2 ⟨rfl,b2⟩
  go_wp2_with fail
  refine (HF.out _).mono ?_
  rintro e w3 ⟨rfl,b3⟩
  go_wp2_with fail
  go_ret2
  exact ⟨rfl,b1.trans ((b2.trans (b3.mono b2.size)).mono b1.size)⟩
theorem parseDur_any (l:List UInt8) (hl:l.length≤9223372036854775807) (w:World) :
  Calls Tryz.prog 255 #[.string (str l)] w fun e w'=>e = .returned (.tuple #[.int .i64 (durR l).1,.int .i64 (durR l).2])∧Below w.heap.size w w':=by
 cases hs:List.isSuffixOf [115] l with
 | false =>
  have e:durR l = (0,3):=by unfold durR; rw [hs]; rfl
  rw [e]
  exact pd_none l hs hl w
 | true =>
  obtain ⟨r,rfl,er⟩:=suffix_split l hs
  have e:durR (r ++ [115]) = restR r:=by unfold durR; rw [if_pos hs,er]
  rw [e]
  have hr:r.length≤9223372036854775807:=by simp at hl; omega
  have hc:=suffix_hit 115 r hl
  by_cases hh:104∈r
  ·obtain ⟨H,T,rfl,hn,e1,e2⟩:=split_at 104 r hh
   have e:restR (H ++ 104 :: T) = hoursR H T:=by unfold restR; rw [if_pos hh,e1,e2]
   rw [e]
   exact pd_h _ _ _ _ _ _ hc (cut_hit 104 H T hn hr) (hours_any H T (by simp at hr; omega)) w
  ·by_cases hm:109∈r
   ·obtain ⟨M,S,rfl,hn,e1,e2⟩:=split_at 109 r hm
    have e:restR (M ++ 109 :: S) = minutesR M S:=by unfold restR; rw [if_neg hh,if_pos hm,e1,e2]
    rw [e]
    exact pd_m _ _ _ _ _ _ hc (cut_miss 104 _ hh) (cut_hit 109 M S hn hr) (minutes_any M S) w
   ·by_cases h0:r = [48]
    ·have e:restR r = (0,0):=by unfold restR; rw [if_neg hh,if_neg hm,if_pos h0]
     rw [e]
     exact pd_zero _ _ (by rw [Lib.toList_data,h0]; rfl) hc (cut_miss 104 _ hh) (cut_miss 109 _ hm) w
    ·obtain ⟨v,_,_,ve,cf⟩:=first_any r
     have e:restR r = (bif firstD r then v else 0,bif firstD r then 0 else 3):=by
      unfold restR
      rw [if_neg hh,if_neg hm,if_neg h0]
      cases hF:firstD r with
      | false=>rfl
      | true=>rw [ve hF]; rfl
     rw [e]
     exact pd_s _ _ (by
      rw [Lib.toList_data,beq_eq_false_iff_ne]
      exact h0) v (firstD r) hc (cut_miss 104 _ hh) (cut_miss 109 _ hm) cf w
open Go
end Go.Proofs.YtpifdbphmnifdaaGreatDoor.S1
namespace Go.Proofs.YtpifdbphmnifdaaGreatDoor
open Go
open Go.RowKit
def GoodF (w:World):Prop:=S2.Good w∧S3.Good w∧S15.GoodR w∧GoodK w
theorem GoodF.below {w w':World} (h:GoodF w) (b:Below w.heap.size w w'):GoodF w':=⟨h.1.below b,h.2.1.below b,h.2.2.1.below b,h.2.2.2.below b⟩
theorem tprs_any (l:Bs) (w:World):Calls Tryz.prog 254 #[.string (str l)] w fun r w'=>r = .returned (.tuple #[.int .i64 (timeR l).1,.int .i64 (timeR l).2])∧Below w.heap.size w w':=by
 unfold timeR
 by_cases hf:timeForm l = true
 ·rw [if_pos hf]
  by_cases hp:Parts (pairN l 0) (pairN l 3) (pairN l 6)
  ·rw [if_pos hp]; exact parse_yes (str l) hf hp w
  ·rw [if_neg hp]; exact parse_time (str l) hf hp w
 ·rw [if_neg hf]; exact parse_syntax (str l) (by simpa using hf) w
theorem mode_fnd (s:Bs):∀ (l:List Bs) (k:Nat),(fdF (isN s) k l = -1∧l.findIdx? (fun x=>decide (x = s)) = none)∨∃ j:Nat,fdF (isN s) k l = (k:Int) + (j:Int)∧l.findIdx? (fun x=>decide (x = s)) = some j
 | [],_=>.inl ⟨rfl,rfl⟩
 | x :: l,k=>by
  unfold fdF
  rw [List.findIdx?_cons]
  by_cases h:x = s
  ·have e:isN s x = true:=decide_eq_true h
   rw [if_pos e,if_pos (decide_eq_true h)]
   exact .inr ⟨0,by simp,rfl⟩
  ·have e:¬ isN s x = true:=fun q=>h (of_decide_eq_true q)
   rw [if_neg e,if_neg (fun q=>h (of_decide_eq_true q))]
   rcases mode_fnd s l (k + 1) with ⟨h1,h2⟩ | ⟨j,h1,h2⟩
   ·exact .inl ⟨h1,by rw [h2]; rfl⟩
   ·exact .inr ⟨j + 1,by rw [h1]; omega,by rw [h2]; rfl⟩
theorem mode_is (s:Bs):(fnd 3 nmL s).1 = max (modeR s) 0∧decide ((fnd 3 nmL s).2 = 0) = decide (0≤modeR s):=by
 unfold modeR fdT fnd
 rcases mode_fnd s nmL 0 with ⟨h1,h2⟩ | ⟨j,h1,h2⟩
 ·rw [h1,h2]; exact ⟨rfl,rfl⟩
 ·rw [h1,h2]
  refine ⟨?_,?_⟩
  ·show (j:Int) = max ((0:Nat) + (j:Int)) 0
   omega
  ·show decide ((0:Int) = 0) = decide (0≤((0:Nat):Int) + (j:Int))
   rw [decide_eq_true rfl,decide_eq_true (by omega)]
theorem fo_fmR {w0:World} (hg:GoodF w0):Fo fmR w0 where
 num:=fun a ha w b=>S3.parse_any a (by omega) w (hg.below b).2.1
 prc:=fun a ha w b=>S3.pprice_any a (by omega) w (hg.below b).2.1
 tim:=fun a _ w _=>tprs_any a w
 dur:=fun a ha w _=>S1.parseDur_any a (by omega) w
 day:=fun a _ w b=>S2.dparse_any (str a) w (hg.below b).1
 mds:=fun a ha w b=>(S15.kprs_any a _ rfl (by omega) w (hg.below b).2.2.1).mono fun e w' h=>⟨h.1,by rw [← h.2]; exact Below.refl _ _⟩
 mode:=fun a _ w b=>(S15.parse_any a _ rfl w (hg.below b).2.2.1).mono fun e w' h=>⟨by rw [(mode_is a).1,(mode_is a).2]; exact h.1,by rw [← h.2]; exact Below.refl _ _⟩
theorem day_64 (l:Bs):B64 (S2.dayR l).1:=by
 unfold S2.dayR
 split
 ·split
  ·next h =>
   obtain ⟨h1,h2,h3,h4,h5,h6⟩:=h
   show B64 (S2.dayOf _ _ _)
   generalize (S2.val4 l:Int) = y at *
   generalize (pairN l 5:Int) = m at *
   generalize (pairN l 8:Int) = d at *
   unfold S2.dayOf
   have e1:=S2.bef_at (y - 2000).toNat (m - 1).toNat (by omega)
   have e2:=S2.bef_succ (12 * (y - 2000).toNat + (m - 1).toNat)
   have e3:=S2.bef_le (show 12 * (y - 2000).toNat + (m - 1).toNat + 1≤1200 by omega)
   have e4:S2.mon (12 * (y - 2000).toNat + (m - 1).toNat) = S2.monN (y - 2000).toNat (m - 1).toNat:=by
    unfold S2.mon
    rw [show (12 * (y - 2000).toNat + (m - 1).toNat) / 12 = (y - 2000).toNat by omega,show (12 * (y - 2000).toNat + (m - 1).toNat) % 12 = (m - 1).toNat by omega]
   rw [S2.bef_end] at e3
   constructor <;> omega
  ·exact ⟨by decide,by decide⟩
 ·exact ⟨by decide,by decide⟩
theorem tim_64 (l:Bs):B64 (timeR l).1:=by
 unfold timeR
 split
 ·split
  ·next h =>
   unfold Parts at h
   exact ⟨by show -9223372036854775808≤_ + _; omega,by show _ + _≤(9223372036854775807:Int); omega⟩
  ·exact ⟨by decide,by decide⟩
 ·exact ⟨by decide,by decide⟩
theorem val_two {l:Bs} (h:digs l = true) (hl:l.length≤2):valN l < 100:=by
 have:=valN_lt l h
 have h2:10 ^ l.length≤10 ^ 2:=Nat.pow_le_pow_right (by decide) hl
 omega
theorem dur_64 (l:Bs):B64 (durR l).1:=by
 unfold durR
 split
 ·unfold restR
  split
  ·unfold hoursR
   split
   ·next h =>
    obtain ⟨-,h1,h2,h3⟩:=h
    split
    ·exact ⟨by decide,by decide⟩
    ·next h4 =>
     have a:=val_two ((posD_iff _).1 h3).2.2 (by omega)
     have b:=((laterD_iff _).1 h1).2.2
     have c:=((laterD_iff _).1 h2).2.2
     exact ⟨by show -9223372036854775808≤_ + _; omega,by show _ + _≤(9223372036854775807:Int); omega⟩
   ·exact ⟨by decide,by decide⟩
  ·split
   ·unfold minutesR
    split
    ·next h =>
     have b:=((firstD_iff _).1 h.1).2.2
     have c:=((laterD_iff _).1 h.2).2.2
     exact ⟨by show -9223372036854775808≤_ + _; omega,by show _ + _≤(9223372036854775807:Int); omega⟩
    ·exact ⟨by decide,by decide⟩
   ·split
    ·exact ⟨by decide,by decide⟩
    ·split
     ·next h =>
      have b:=((firstD_iff _).1 h).2.2
      exact ⟨by show -9223372036854775808≤((_:Nat):Int); omega,by show ((_:Nat):Int)≤(9223372036854775807:Int); omega⟩
     ·exact ⟨by decide,by decide⟩
 ·exact ⟨by decide,by decide⟩
theorem fmB_fmR:FmB fmR:=⟨tim_64,dur_64,day_64⟩
theorem parse_feed {w:World} (hg:GoodF w) (s:Bs) (hs:s.length≤1099511627776):Calls Tryz.prog 10 #[.string (str s)] w fun e w'=>PaR fmR s w e w' :=
 prs_any fmR fmB_fmR (fun _ b=>fo_fmR (hg.below b)) hg.2.2.2 s hs
def s1 (x:Bs):List Value:=[.string (str x)]
theorem s1_len (x:Bs):(s1 x).length = 1:=rfl
theorem rinfo_str:(Tryz.prog.info? 9).map (fun i=>(i.zero,i.size,i.bytes)) = some (some (.string ⟨#[]⟩),1,16):=by kernel_rfl
def Wst (w0:World) (F:Nat) (ls:List Bs) (W:World):Prop:=∃ v,Gst w0 F 125 [v] [tRow w0.heap.size ⟨9,1,v,ls.length,fl s1 ls⟩] W
def Wsx (w0:World) (F:Nat) (ls:List Bs) (xs:List Tng) (W:World):Prop:=∃ v,Gst w0 F 125 [v] (tRow w0.heap.size ⟨9,1,v,ls.length,fl s1 ls⟩ :: xs) W
theorem form_any (s:ByteArray) (n:Int) (w:World):Calls Tryz.prog 145 #[.string s,.int .i64 n] w fun e w'=>e = .returned (.string s)∧w' = w:=by
 go_enter Tryz.func145,Tryz.ntmps145
 go_wp2_with fail
 go_ret
 exact ⟨rfl,rfl⟩
theorem wrec_x {w0 W:World} {F:Nat} {ls:List Bs} {xs:List Tng} (h:Wsx w0 F ls xs W) (hl:ls.length≤1000000) (f:Value) (fs:List Bs) (hf:Lst W f fs) (hn:fs.length≤64) (hx:∀ x∈fs,x.length≤16384) :
  Calls Tryz.prog 134 #[.pointer (some ⟨F,0,none⟩),f] W fun e w'=>e = .returned (.tuple #[])∧Wsx w0 F (ls ++ [(S4.joinR fs).1]) xs w':=by
 suffices hs:∀ Z:World→Prop,(∀ w',Wsx w0 F (ls ++ [(S4.joinR fs).1]) xs w'→Z w')→Calls Tryz.prog 134 #[.pointer (some ⟨F,0,none⟩),f] W fun e w'=>e = .returned (.tuple #[])∧Z w' from hs _ (fun _ h=>h)
 intro Z hZ
 have HZ:=Lib.hid hZ
 clear hZ
 obtain ⟨v,G⟩:=h
 obtain ⟨A0,c0,hv0,-⟩:=ownK_shape (G.row (i:=0) rfl)
 have hv0:v = .slice A0 ls.length c0:=hv0
 subst hv0
 obtain ⟨W1,hW1⟩:∃ X,World.drew W = X:=⟨_,rfl⟩
 have bd:Below W.heap.size W W1:=by rw [← hW1]; exact (Below.refl _ _).drew
 have G1:=G.on bd
 have hf1:Lst W1 f fs:=hf.below bd
 have C0:=Lib.hid (S4.fjoin_any f fs (by omega) hx W1 hf1)
 have S0:∀ X,Gst w0 F 125 [.slice A0 ls.length c0] (tRow w0.heap.size ⟨9,1,.slice A0 ls.length c0,ls.length,fl s1 ls⟩ :: xs) X→X.cell? ⟨F,0,none⟩ = some (.slice A0 ls.length c0):=fun X h=>(h.cell (i:=0) rfl).1
 generalize S4.joinR fs = jr at C0 HZ
 obtain ⟨ln,er⟩:=jr
 dsimp only at C0 HZ
 clear hf hf1 hx bd G
 go_enter Tryz.func134,Tryz.ntmps134
 go_wp2_with fail
 refine startZ (S:=fun X=>X.cell? ⟨F,0,none⟩ = some (.slice A0 ls.length c0)) _ 15 14 rfl (by kernel_rfl) (by kernel_rfl) (by kernel_rfl) (bitsL 15 0) (by kernel_rfl) ?_
 rw [hW1]
 refine takesZ (L:=[(0,4,pt F 0),(1,5,pt F 0),(2,6,pt F 0),(3,7,pt F 0),(4,8,.slice A0 ls.length c0),(5,9,f)]) rfl (.q (.q (.q (.q (.cons rfl rfl (.inl ⟨rfl,fun _ h=>by dsimp only [pt]; go_simp; try with_reducible rfl⟩) (.q .nil)))))) [0,1,2,3,4,5] rfl rfl (by kernel_rfl) (fun _ _ _ _ _ h=>h) (S0 _ G1) ?_
 refine callZ (i:=6) (R:=fun u X=>u = .tuple #[.string (str ln),.int .i64 er]∧Below W1.heap.size W1 X) 10 _ rfl (by kernel_rfl) rfl rfl rfl (by kernel_rfl) (C0.out.mono fun e w' h=>⟨_,h.1,rfl,h.2⟩) ?_
 rintro u w2 ⟨rfl,b2⟩
 have G2:=G1.on b2
 refine ⟨S0 _ G2,?_⟩
 refine takesZ (L:=[(7,11,.string (str ln)),(8,12,.int .i64 er)]) rfl (.q (.q .nil)) [7,8] rfl rfl (by kernel_rfl) (fun _ _ _ _ _ h=>h) (S0 _ G2) ?_
 refine callZ (i:=9) (R:=fun u X=>u = .string (str ln)∧X = w2) 13 _ rfl (by kernel_rfl) rfl rfl rfl (by kernel_rfl) ((form_any (str ln) er w2).mono fun e w' h=>⟨_,h.1,rfl,h.2⟩) ?_
 rintro u w3 ⟨rfl,rfl⟩
 refine ⟨S0 _ G2,?_⟩
 obtain ⟨w6,h6⟩:∃ X,w3.alloc (.cells #[.string (str ln)] 9 (0,0)) = X:=⟨_,rfl⟩
 have G6:=G2.on (W':=w6) (by rw [← h6]; exact (Below.refl _ _).alloc (Nat.le_refl _) _)
 have y6:=heap_alloc_new w3 (.cells #[.string (str ln)] 9 (0,0))
 rw [h6] at y6
 refine makeZ (i:=10) (v:=.slice (some ⟨w3.heap.size,0,none⟩) 1 1) (w':=w6) 14 _ rfl (by kernel_rfl) rfl rfl rfl (by rw [← h6]; kernel_rfl) (S0 _ G6) rfl ?_
 obtain ⟨v7,w7,hr7,o7,g7,p7⟩:=run_appG (enc:=s1) s1_len (by decide) Tryz.underlying66 rinfo_str rfl (by decide) w6 66 w0.heap.size (.slice A0 ls.length c0) ls ln (fun u hu=>by simp only [s1,List.mem_cons,List.not_mem_nil,or_false] at hu; subst hu; rfl) (G6.row (i:=0) rfl) _ _ y6 rfl G6.base.size (by omega)
 obtain ⟨A7,c7,e7,-⟩:=ownK_shape o7
 subst e7
 have G7:=G6.turn (i:=0) (t':=tRow w0.heap.size ⟨9,1,.slice A7 (ls ++ [ln]).length c7,(ls ++ [ln]).length,fl s1 (ls ++ [ln])⟩) rfl g7 (tRow.at o7) p7
 refine makeZ (i:=11) (v:=.slice A7 (ls ++ [ln]).length c7) (w':=w7) 15 _ rfl (by kernel_rfl) rfl rfl rfl (exec_append (s:=.tmp 8) (x:=.tmp 14) (ST:=66) (by kernel_rfl) (by kernel_rfl) (by kernel_rfl) hr7) (G7.cell (i:=0) rfl).1 rfl ?_
 refine onesZ (L:=[(12,16,pt F 0),(13,17,pt F 0)]) (.q (.q .nil)) [12,13] rfl rfl (by kernel_rfl) (G7.cell (i:=0) rfl).1 ?_
 obtain ⟨k0,k1⟩:=G7.cell (i:=0) rfl
 refine storeZ (w':=w7.setCell ⟨F,0,none⟩ (.slice A7 (ls ++ [ln]).length c7)) _ rfl (by kernel_rfl) rfl rfl rfl (by go_simp; try with_reducible rfl) ?_
 refine doneZ (by kernel_rfl) ?_
 have GE:=Lib.hid (HZ.out _ ⟨_,G7.put 0 (.slice A7 (ls ++ [ln]).length c7)⟩)
 clear G7 G6 G2 G1 k0 k1 hr7 o7 g7 p7 y6 h6 S0
 generalize w7.setCell ⟨F,0,none⟩ (.slice A7 (ls ++ [ln]).length c7) = w8 at GE ⊢
 go_wp2_with fail
 go_end0
 exact ⟨rfl,GE.out⟩
def Wrs (w0:World) (F:Nat) (R:List (List Bs)) (W:World):Prop:=Wst w0 F (R.map lineL) W
end Go.Proofs.YtpifdbphmnifdaaGreatDoor
