/-
  Facts. Condition: each theorem's own.
-/
import Derived.Test.YtpifdbphmnifdaaGreatDoorYC19
set_option maxRecDepth 100000
set_option maxHeartbeats 8000000
section
variable {p:Prop}
theorem Ga (h:p:=by obtain⟨h0,h1,h2,h3⟩:=h;dsimp only [pt];go_simp;try with_reducible rfl):p:=h
theorem Gb (h:p:=by simp only [e];omega):p:=h
theorem Gc (h:p:=by simp only [e] at this;exact this):p:=h
theorem Gd (h:p:=by simp [T0] at h):p:=h
end
open Go.Proofs.Tryz
namespace Go.Proofs.YtpifdbphmnifdaaGreatDoor
section
open Go.RowKit
def i1 (x:Int):List Value:=[.int .i64 x]
theorem Qe8 (x:Int):(i1 x).length=1:=rfl
def lnK (r:Rd) (lx:List Int) (k:Nat):List Int:=if k<10 then r.ln.getD k [] else if k=10 then lx else if r.fa=0 then [] else [r.fa]
structure Ln (w0:World) (vs:List Value) (ts:List Tng) (r:Rd) (lw:Bs) (B m:Nat) (V:List UInt8→Value) (lx:List Int) (N:Nat):Prop where
 c15:vs[15]?=some (.map (some B))
 t10:ts[10]?=some (tLin B m V)
 c16:vs[16]?=some (.string (str lw))
 rows:∀k,k<12→ts[15+k]?=some (tRow w0.heap.size ⟨3,1,V (kinds.getD k []),(lnK r lx k).length,fl i1 (lnK r lx k)⟩)
 no:∀x,x ∉ kinds→V x=.slice none 0 0
 cl:r.cl=(decide (lw=wTr) || decide (lw=wCc))
 few:∀k,k<12→(lnK r lx k).length≤N
 less:m≤N
 ten:r.ln.length=10
 fa:0≤r.fa
def Pa (w0:World) (F:Nat) (r:Rd) (N:Nat) (W:World):Prop:=∃vs ts U lw B m V lx,Gst w0 F 80 vs ts W∧vs[1]?=some (.int .i64 0)∧Pt w0 vs ts r.T U N∧Ln w0 vs ts r lw B m V lx N∧(r.cl=true→U.tr≠[])
section
variable {w0:World} {vs vs':List Value} {ts ts':List Tng} {T U:Tt} {N:Nat}
theorem Pt.frame (h:Pt w0 vs ts T U N) (hv:∀i,2≤i→i≠15→i≠16→vs'[i]?=vs[i]?) (hvl:vs'.length=vs.length) (ht:∀i,i<10∨(11≤i∧i<15)∨28≤i→ts'[i]?=ts[i]?) (htl:ts'.length=ts.length):Pt w0 vs' ts' T U N where
 cop:=h.cop
 tabs:=fun i hi=>by
  obtain⟨v,hu⟩:=h.tabs i hi;exact⟨v,hu.keep (hv _ Kd Kd Kd) (ht i (.inl hi))⟩
 di:=(hv 12 Kd Kd Kd).trans h.di
 wi:=(hv 13 Kd Kd Kd).trans h.wi
 cp:=(hv 14 Kd Kd Kd).trans h.cp
 ix:=fun j hj=>by
  obtain⟨B,hB⟩:=h.ix j hj;exact⟨B,hB.keep (hv _ Kd Kd Kd) (ht _ (.inr (.inl Kd)))⟩
 calls:=fun j x hx=>(ht _ (.inr (.inr Kd))).trans (h.calls j x hx)
 tlen:=htl.trans h.tlen
 vlen:=hvl.trans h.vlen
 few:=h.few
 fewc:=h.fewc
theorem Prd.mono {F n n':Nat} {v:Value} {g:List Bs} {e:Int} {W:World} (h:Prd F n vs v g e W) (hn:n≤n') (hW:n'≤W.heap.size):Prd F n' vs v g e W:=by
 refine⟨h.box,h.rest,h.err,?_,hW⟩;obtain⟨A,c,e,h1,h2,h3⟩:=h.lst;refine⟨A,c,e,h1,h2,fun h0=>?_⟩;obtain⟨b,o,e1,h4,h5⟩:=h3 h0;exact⟨b,o,e1,Pr h4 hn,h5⟩
end
theorem J5q (F_:Fm) (r:Rd) (lx:List Int) (f:List Bs) (n:Int) (hn:n≠0) (ten:r.ln.length=10) (k:Nat) (hk:kind (f.headD [])=k) (h12:k<12) (h0:(rcd F_ r f n).1=0) (hfa:0≤r.fa) :
  (rcd F_ r f n).2=⟨(addR F_ r.T k f).2,if k<10 then r.ln.modify k (·++[n]) else r.ln,if k=11 then n else r.fa,decide (k=4∨k=10)⟩∧∀j,j<12→lnK (rcd F_ r f n).2 (if k=10 then lx++[n] else lx) j=if j=k then lnK r lx j++[n] else lnK r lx j:=by
 have e:(rcd F_ r f n).2=⟨(addR F_ r.T k f).2,if k<10 then r.ln.modify k (·++[n]) else r.ln,if k=11 then n else r.fa,decide (k=4∨k=10)⟩∧(k=11→r.fa=0):=by
  unfold rcd at h0 ⊢;simp only [hk] at h0 ⊢;rw [if_neg Kd] at h0 ⊢;by_cases hc:f.length=cnts.getD k 0
  ·rw [if_neg (fun q=>q hc)] at h0 ⊢
   by_cases h10:k=10∧r.cl=false
   ·rw [if_pos h10] at h0;simp at h0
   ·rw [if_neg h10] at h0 ⊢
    by_cases h11:k=11∧0<r.fa
    ·rw [if_pos h11] at h0;simp at h0
    ·rw [if_neg h11]
     exact⟨rfl,fun q=>by have:=fun x=>h11 ⟨q,x⟩;omega⟩
  ·rw [if_pos hc] at h0;simp at h0
 refine⟨e.1,fun j hj=>?_⟩;rw [e.1];unfold lnK;by_cases hj10:j<10
 ·rw [if_pos hj10,if_pos hj10]
  by_cases hk10:k<10
  ·simp only [if_pos hk10]
   exact Jtm r.ln k j n Kd
  ·simp only [if_neg hk10]
   rw [if_neg Kd]
 ·rw [if_neg hj10,if_neg hj10]
  by_cases hj1:j=10
  ·rw [if_pos hj1,if_pos hj1]
   by_cases hk1:k=10
   ·rw [if_pos hk1,if_pos Kd]
   ·rw [if_neg hk1,if_neg Kd]
  ·rw [if_neg hj1,if_neg hj1]
   by_cases hk1:k=11
   ·simp only [if_pos hk1]
    rw [if_pos (by omega:j=k),if_neg hn,if_pos (e.2 hk1)];rfl
   ·simp only [if_neg hk1]
    rw [if_neg (by omega:¬j=k)]
theorem Jjv {kw:Bs} (h:kind kw≠12):kinds.getD (kind kw) []=kw:=by
 rw [List.getD_eq_getElem?_getD,Jrb h];rfl
theorem J5r {i j:Nat} (hi:i<12) (hj:j<12) (h:i≠j):kinds.getD i []≠kinds.getD j []:=by
 have hd:∀i,i<12→∀j,j<12→i≠j→kinds.getD i []≠kinds.getD j []:=Kl;exact hd i hi j hj h
theorem ite1 {α β:Type} {p:Prop} [Decidable p] (a b:α×β):(if p then a else b).1=if p then a.1 else b.1:=by split <;> rfl
theorem J5s (F_:Fm) (r:Rd) (f:List Bs) (n:Int) (ok:Bool) (m:Nat) (hok:r.cl=ok) (hm:m≠0↔0<r.fa):Jfj F_ r.T (kind (f.headD [])) f ok m=(rcd F_ r f n).1:=by
 unfold Jfj rcd;simp only [ite1,hok,hm]
theorem J1b {l:List Bs} {j:Nat} {x:Bs} (h:l[j]?=some x):(sts l)[j]?=some (.string (str x)):=by
 unfold sts;rw [List.getElem?_map,h];rfl
theorem OwnS.lstO {w:World} {base F n:Nat} {v:Value} {l:List Bs} (h:OwnS w base v l) (hF:F<base) (hn:w.heap.size≤n):LstO F n w v l:=by
 obtain⟨A,c,hv,hc,-,hx⟩:=Jbx h;have hm:c≤9223372036854775807:=by
  rcases h.2 with ⟨e,-⟩ | ⟨_,_,_,e,_,_,_,hm,_⟩
  ·rw [hv] at e;injection e with _ _ e3;omega
  ·rw [hv] at e;injection e with _ _ e3;unfold maxLen at hm;omega
 refine⟨A,c,hv,hc,hm,fun h0=>?_⟩;obtain⟨g,hA,h1,hg,hcell⟩:=hx h0;exact⟨g,0,hA,Kd,Kd,fun j x hj=>hcell j _ (J1b hj)⟩
theorem Jm0 {α:Type} {l:List α} {i:Nat} (h:i<l.length):∃x,l[i]?=some x:=⟨_,List.getElem?_eq_getElem h⟩
theorem J1c:(prog.info? 3).map (fun i=>(i.zero,i.size,i.bytes))=some (some (.int .i64 0),1,8):=Kk
theorem Qbe (F_:Fm) {w0 W:World} {F N:Nat} {r:Rd} (FO:Fo F_ w0) {vs:List Value} {ts:List Tng} {U:Tt} {lw:Bs} {B m:Nat} {V:List UInt8→Value} {lx:List Int} (G:Gst w0 F 80 vs ts W) (PT:Pt w0 vs ts r.T U N) (L:Ln w0 vs ts r lw B m V lx N) (e1:vs[1]?=some (.int .i64 0)) (hcl:r.cl=true→U.tr≠[]) (hN:N+1≤1000000) (hm:m≤1000000) (x kw:Bs) (g:List Bs) (hs:S4.splitR x=(kw::g,0)) (hx:x.length≤65536) (h64:g.length≤64) (hg:∀k,(g.getD k []).length≤65536) (hkw:kw.length≤65536) (n:Int) (E:Int) (hE:Jfj F_ r.T (kind kw) (kw::g) (decide (lw=wTr) || decide (lw=wCc)) (lnK r lx 11).length=E) :
  Calls prog 22 #[.pointer (some ⟨F,0,none⟩),.string (str x),.int .i64 n] W fun e w'=>e=.returned (.int .i64 E)∧Pn w0 w'∧(E=0→∃vs3 vs4 vs' ts4 ts' i v m',(∀i,2≤i→vs3[i]?=vs[i]?)∧vs3.length=vs.length∧(∃U',Pt w0 vs4 ts4 (addR F_ r.T (kind kw) (kw::g)).2 U' (N+1))∧Left vs3 vs4 ts ts4∧vs4[1]?=some (.int .i64 0)∧vs'=vs4.set 16 (.string (str kw))∧i=15+kind kw∧m'≤m+1∧ts'=(ts4.set i (tRow w0.heap.size ⟨3,1,v,(lnK r lx (kind kw)++[n]).length,fl i1 (lnK r lx (kind kw)++[n])⟩)).set 10 (tLin B m' (putL V kw v))∧Gst w0 F 80 vs' ts' w'):=by
 suffices h:∀Z:World→Prop,(∀w',Pn w0 w'→(E=0→∃vs3 vs4 vs' ts4 ts' i v m',(∀i,2≤i→vs3[i]?=vs[i]?)∧vs3.length=vs.length∧(∃U',Pt w0 vs4 ts4 (addR F_ r.T (kind kw) (kw::g)).2 U' (N+1))∧Left vs3 vs4 ts ts4∧vs4[1]?=some (.int .i64 0)∧vs'=vs4.set 16 (.string (str kw))∧i=15+kind kw∧m'≤m+1∧ts'=(ts4.set i (tRow w0.heap.size ⟨3,1,v,(lnK r lx (kind kw)++[n]).length,fl i1 (lnK r lx (kind kw)++[n])⟩)).set 10 (tLin B m' (putL V kw v))∧Gst w0 F 80 vs' ts' w')→Z w')→Calls prog 22 #[.pointer (some ⟨F,0,none⟩),.string (str x),.int .i64 n] W fun e w'=>e=.returned (.int .i64 E)∧Z w' from h _ (fun _ a b=>⟨a,b⟩)
 intro Z hZ;have HZ:=Pe hZ;clear hZ;have C0:=Pe (S4.fsplit_any (str x) K8 W);have hs':S4.splitR (str x).data.toList=(kw::g,0):=hs;rw [hs'] at C0;clear hs hs';obtain⟨u0,hu0⟩:=Jm0 (l:=vs) (i:=0) (by rw [PT.vlen];omega);generalize str x=xs at C0 ⊢;go_enter func22,ntmps22;go_wp2_with fail;refine C0.out.mono ?_;rintro q w1 ⟨v,rfl,ho,hb⟩;clear C0;dsimp only at ho ⊢;have LO:=ho;obtain⟨A0,c0,rfl,-⟩:=Jbx ho;obtain⟨v,hv⟩:=Pi (Value.slice A0 (kw::g).length c0);have G1:=G.on hb;obtain⟨k0,k1⟩:=G1.cell hu0;have G2:=G1.put 0 v;have LO:LstO F (w1.setCell ⟨F,0,none⟩ v).heap.size (w1.setCell ⟨F,0,none⟩ v) v (kw::g):=by
  have e:(w1.setCell ⟨F,0,none⟩ v).heap.size=w1.heap.size:=Kj;rw [e,←hv];exact (OwnS.lstO ho G.lt Ph).kept Ph (Jbp w1 F 0 _) (.inl rfl)
 have P2:Prd F (w1.setCell ⟨F,0,none⟩ v).heap.size (vs.set 0 v) v (kw::g) 0 (w1.setCell ⟨F,0,none⟩ v):=⟨G2.box,by rw [List.getElem?_set,if_pos rfl,if_pos (by rw [PT.vlen];omega)],by rw [List.getElem?_set,if_neg Kl];exact e1,LO,Nat.le_refl _⟩;have Q2:=Pe (And.intro G2 P2);clear G1 G2 P2 LO ho;subst hv;go_wp2_with fail;clear k0 k1;generalize Value.slice A0 (kw::g).length c0=v at Q2 ⊢;generalize w1.setCell ⟨F,0,none⟩ v=w2 at Q2 ⊢;obtain⟨G2,P2⟩:=Q2.out;have hvl:(vs.set 0 v).length=vs.length:=List.length_set;have C1:=Jbq (F:=F) (vs:=vs.set 0 v) (g:=kw::g) (W0:=w2) 0 0 w2 (Nx.start P2);rw [show (kw::g).getD 0 []=kw from rfl] at C1;refine C1.mono ?_;rintro q w3 ⟨rfl,⟨n31,-,v',n33⟩,-⟩;clear C1;have G3:=G2.up n31 n33.box;have P3:Prd F w3.heap.size (set2 (vs.set 0 v) v' 0) v' g 0 w3:=Prd.mono n33 n33.size Ph;have hv3:∀i,2≤i→(set2 (vs.set 0 v) v' 0)[i]?=vs[i]?:=fun i hi=>by rw [Jae hi,List.getElem?_set,if_neg Kd]
 have hl3:(set2 (vs.set 0 v) v' 0).length=vs.length:=by unfold set2;simp only [List.length_set]
 clear n31 n33 G2 P2 Q2;generalize set2 (vs.set 0 v) v' 0=vs3 at G3 P3 hv3 hl3;have PT3:=PT.frame (vs':=vs3) (ts':=ts) (fun i h _ _=>hv3 i h) hl3 (fun _ _=>rfl) rfl;obtain⟨A1,c1,hV,-⟩:=Jbx (G3.row (L.rows 11 Kd));have hV:V wFa=.slice A1 (lnK r lx 11).length c1:=hV;have C2:=Pe (J5e F_ (W:=w3) ⟨G3,⟨v',P3⟩,Kd,hg⟩ FO PT3 hN ((hv3 16 Kd).trans L.c16) (fun h=>hcl (L.cl.trans h)) ((hv3 15 Kd).trans L.c15) L.t10 hV kw);rw [hE] at C2;clear G3 P3 PT3 PT G;go_wp2_with fail;refine C2.out.mono ?_;rintro q w4 ⟨rfl,vs4,ts4,G4,e4,l4,L4,hP⟩;clear C2;have ROW:∃ts5 i l,Gst w0 F 80 vs4 ts5 w4∧ts5[10]?=some (tLin B m V)∧ts5[i]?=some (tRow w0.heap.size ⟨3,1,V kw,l.length,fl i1 l⟩)∧i≠10∧l.length≤1000000∧(E=0→ts5=ts4∧i=15+kind kw∧l=lnK r lx (kind kw)):=by
  have h10:ts4[10]?=some (tLin B m V):=L4.t10.trans L.t10;have hl:=(Pl h10).1;by_cases h12:kind kw=12
  ·have hE':E=41:=by rw [←hE];unfold Jfj;rw [if_pos h12]
   have hVk:=L.no kw (J0u h12);refine⟨ts4++[tRow w0.heap.size ⟨3,1,V kw,0,fl i1 []⟩],ts4.length,[],G4.more (Jbs Pg none) (tRow.at ?_) (fun k hk=>?_),by rw [List.getElem?_append_left hl];exact h10,by rw [List.getElem?_append_right Ph,Nat.sub_self];rfl,Kd,Kj,fun h=>absurd (hE'.symm.trans h) Kl⟩
   ·rw [hVk];exact World.ownsRow_nil _ _ _ _
   ·rw [hVk] at hk;cases hk
  ·have hk:kind kw<12:=by have:=Jhf kw;omega
   refine⟨ts4,15+kind kw,lnK r lx (kind kw),G4,h10,?_,Kd,by have:=L.few _ hk;omega,fun _=>⟨rfl,rfl,rfl⟩⟩;rw [L4.tl _ Kd Kd,L.rows _ hk,Jjv h12]
 obtain⟨ts5,i,l,G5,h10,HR,hi10,hll,hz⟩:=ROW;clear G4;obtain⟨w5,h5⟩:=Pi (World.drew w4);have G5:=G5.on (W':=w5) Ua;have c15:vs4[15]?=some (.map (some B)):=L4.c15.trans ((hv3 15 Kd).trans L.c15);have S0:∀(X:World) (vs:List Value) (ts:List Tng),vs[15]?=some (.map (some B))→ts[10]?=some (tLin B m V)→Gst w0 F 80 vs ts X→X.cell? ⟨F,15,none⟩=some (.map (some B))∧(Instr.lookup 76 (.map (some B)) (.string (str kw)) false).run prog X=.ok (V kw) X:=fun X vs ts h h' G=>⟨(G.cell h).1,(G.blk h').1.look (str kw) kw rfl Kd⟩
 go_wp2_with fail;refine Jeg (S:=fun X=>X.cell? ⟨F,15,none⟩=some (.map (some B))∧(Instr.lookup 76 (.map (some B)) (.string (str kw)) false).run prog X=.ok (V kw) X) _ 15 14 rfl Kk Kk Kk (Jbm 15 0) Kk ?_;rw [h5];refine Jd6 (L:=[(0,30,pt F 0),(1,31,pt F 0),(2,32,pt F 15),(3,33,.map (some B)),(4,34,.string (str kw)),(5,35,pt F 0),(6,36,pt F 0),(7,37,pt F 15),(8,38,.map (some B)),(9,39,.string (str kw)),(10,40,V kw),(11,41,.int .i64 n)]) rfl (.q (.q (.q (.cons rfl rfl (.inl ⟨rfl,fun _ h=>Uc⟩) (.q (.q (.q (.q (.cons rfl rfl (.inl ⟨rfl,fun _ h=>Uc⟩) (.q (.cons rfl rfl (.inl ⟨rfl,fun _ h=>Uc⟩) (.q .nil)))))))))))) [0,1,2,3,4,5,6,7,8,9,10,11] rfl rfl Kk (fun _ _ _ _ _ h=>h) (S0 _ _ _ c15 h10 G5) ?_;obtain⟨w6,h6⟩:=Pi (w5.alloc (.cells #[.int .i64 n] 3 (0,0)));have G6:=G5.on (W':=w6) Wz;have y6:=heap_alloc_new w5 (.cells #[.int .i64 n] 3 (0,0));rw [h6] at y6;refine Jc5 (i:=12) (v:=.slice (some ⟨w5.heap.size,0,none⟩) 1 1) (w':=w6) 42 _ rfl Kk rfl rfl rfl Ue (S0 _ _ _ c15 h10 G6) rfl ?_;obtain⟨v7,w7,hr7,o7,g7,p7⟩:=Jca (enc:=i1) Qe8 Kl underlying84 J1c rfl Kl w6 84 w0.heap.size (V kw) l n (fun u hu=>by simp only [i1,List.mem_cons,List.not_mem_nil,or_false] at hu;subst hu;rfl) (G6.row HR) _ _ y6 rfl G6.base.size Kd;have G7:=G6.turn (t':=tRow w0.heap.size ⟨3,1,v7,(l++[n]).length,fl i1 (l++[n])⟩) HR g7 (tRow.at o7) p7;have h10':(ts5.set i (tRow w0.heap.size ⟨3,1,v7,(l++[n]).length,fl i1 (l++[n])⟩))[10]?=some (tLin B m V):=(List.getElem?_set_ne hi10).trans h10;refine Jc5 (i:=13) (v:=v7) (w':=w7) 43 _ rfl Kk rfl rfl rfl (Ja7 (s:=.tmp 40) (x:=.tmp 42) (ST:=84) Kk Kk Kk hr7) (S0 _ _ _ c15 h10' G7) rfl ?_;have b7:=G7.blk h10';obtain⟨w8,r8,m8,g8⟩:=b7.1.put Kd (str kw) kw rfl Kd v7;have G8:=G7.turn (t':=tLin B (m+1) (putL V kw v7)) h10' g8 (tBlk.at m8 b7.2.1 (Pr b7.2.2.1 g8.size) fun _ _ _ h1 hg hn=>h1.kept hg hn) (fun k hk=>.inl hk);refine Jeh (w':=w8) _ rfl Kk rfl rfl rfl Wx ?_;refine Jhm Kk ?_;have c16:∃u,vs4[16]?=some u:=Jm0 Kd;obtain⟨u16,c16⟩:=c16;have G9:=G8.put 16 (.string (str kw));obtain⟨k0,k1⟩:=G8.cell c16;obtain⟨k2,k3⟩:=G8.cell e4;have k4:=(G9.cell (i:=1) (v:=.int .i64 E) (by rw [List.getElem?_set,if_neg Kl];exact e4)).1;have Q9:Hid (Z (w8.setCell ⟨F,16,none⟩ (.string (str kw)))):=Pe (HZ.out _ G9.base fun h0=>by
  obtain⟨z1,z2,z3⟩:=hz h0;subst z1;subst z2;subst z3;exact⟨vs3,vs4,_,ts5,_,_,v7,m+1,hv3,hl3,hP h0,L4,h0 ▸ e4,rfl,rfl,Nat.le_refl _,rfl,G9⟩)
 clear G9 G8 G7 G6 G5 g8 m8 r8 b7 h10' p7 g7 o7 hr7 y6 h6 h5 S0 hP hz HR;go_wp2_with fail;go_ret;exact⟨rfl,Q9.out⟩
theorem Qbf (F:Nat) (W:World) (x:Bs) (f:List Bs) (z n:Int) (hs:S4.splitR x=(f,z)) (hz:z≠0) (hx:x.length≤65536) :
  Pc 22 #[.pointer (some ⟨F,0,none⟩),.string (str x),.int .i64 n] W (.int .i64 z):=by
 have C0:=Pe (S4.fsplit_any (str x) K8 W);have hs':S4.splitR (str x).data.toList=(f,z):=hs;rw [hs'] at C0;clear hs hs';generalize str x=xs at C0 ⊢;go_enter func22,ntmps22;go_wp2_with fail;refine C0.out.mono ?_;rintro q w1 ⟨v,rfl,ho,hb⟩;clear C0;dsimp only at ho ⊢;obtain⟨A0,c0,rfl,-⟩:=Jbx ho;have B1:=Pe hb;clear hb ho;go_wp2_with fail;go_ret;exact⟨rfl,B1.out⟩
theorem J1d (kw:Bs) (k:Nat) (hk:k<12):kind kw=k↔kw=kinds.getD k []:=by
 have hd:∀k,k<12→kind (kinds.getD k [])=k:=Kl;constructor
 ·intro h
  rw [←h,Jjv Kd]
 ·intro h
  rw [h,hd k hk]
theorem J1e (F_:Fm) {T:Tt} {k:Nat} (hk:k<12) {f:List Bs} (hf:f.length=cnts.getD k 0) (h:k=4∨T.tr≠[]):(addR F_ T k f).2.tr≠[]:=by
 have h4:(addR F_ T k f).2.tr.length=T.tr.length+if 4=k then 1 else 0:=(Jqs F_ T k hk f hf).1 4 Kd
 intro e;rw [e] at h4;rcases h with h | h
 ·rw [if_pos h.symm] at h4;simp at h4
 ·have:T.tr.length≠0:=fun q=>h (List.length_eq_zero_iff.1 q)
  simp only [List.length_nil] at h4;omega
theorem Qbg (F_:Fm) {w0 W:World} {F N:Nat} {r:Rd} (FO:Fo F_ w0) (P:Pa w0 F r N W) (hN:N+1≤1000000) (x:Bs) (hx:x.length≤65536) (hi:ign x=false) (n:Int) (hn:0<n) :
  Calls prog 22 #[.pointer (some ⟨F,0,none⟩),.string (str x),.int .i64 n] W fun e w'=>e=.returned (.int .i64 (oneR F_ r x n).1)∧Pn w0 w'∧((oneR F_ r x n).1=0→Pa w0 F (oneR F_ r x n).2 (N+1) w'):=by
 obtain⟨vs,ts,U,lw,B,m,V,lx,G,e1,PT,L,hcl⟩:=P;have hO:oneR F_ r x n=if (splR x).2≠0 then ((splR x).2,r) else rcd F_ r (splR x).1 n:=by unfold oneR;rw [hi];rfl
 by_cases hS:(splR x).2=0
 ·rw [if_neg (fun q=>q hS)] at hO
  have hxn:x≠[]:=fun e=>by rw [e] at hi;cases hi
  obtain⟨-,-,s3,s4,s5⟩:=J7v hS hxn;obtain⟨fs,hfs⟩:=Pi ((splR x).1);rw [hfs] at hO s3 s4 s5;cases fs with
  | nil=>exact absurd rfl s3
  | cons kw g =>
   rw [List.length_cons] at s4;have hk:kw.length≤65536:=Nat.le_trans (s5 kw (List.mem_cons_self)) hx;have hg:∀k,(g.getD k []).length≤65536:=fun k=>by
    rw [List.getD_eq_getElem?_getD];cases h:g[k]? with
    | none=>simp
    | some y=>exact Nat.le_trans (s5 y (List.mem_cons_of_mem _ (List.mem_of_getElem? h))) hx
   have hc:=J5s F_ r (kw::g) n (decide (lw=wTr) || decide (lw=wCc)) (lnK r lx 11).length L.cl (by
    have:=L.fa;show (if r.fa=0 then ([]:List Int) else [r.fa]).length≠0↔0<r.fa
    by_cases h0:r.fa=0
    ·rw [if_pos h0,h0];simp
    ·rw [if_neg h0];simp;omega)
   rw [hO];have hsp:S4.splitR x=(kw::g,0):=(Prod.ext hfs hS:splR x=(kw::g,0));refine (Qbe F_ FO G PT L e1 hcl hN (by have:=L.less;omega) x kw g hsp hx Kd hg hk n _ hc).mono ?_;rintro e w' ⟨rfl,hb,hK⟩;refine⟨rfl,hb,fun h0=>?_⟩;obtain⟨vs3,vs4,vs',ts4,ts',i,v,m',hv3,hl3,⟨U',PT4⟩,L4,e4,rfl,rfl,hm',rfl,G'⟩:=hK h0;have hk12:kind kw<12:=by
    have:=Jhf kw;have h:kind kw≠12:=fun q=>by rw [←hc] at h0;unfold Jfj at h0;rw [if_pos (show kind ((kw::g).headD [])=12 from q)] at h0;cases h0
    omega
   have hkg:=Jjv (kw:=kw) Kd;obtain⟨n1,n2⟩:=J5q F_ r lx (kw::g) n Kd L.ten (kind kw) rfl hk12 h0 L.fa;have hf:(kw::g).length=cnts.getD (kind kw) 0:=by
    rw [←hc] at h0;unfold Jfj at h0;rw [if_neg (show ¬kind ((kw::g).headD [])=12 from by show ¬kind kw=12;omega)] at h0;by_cases q:(kw::g).length=cnts.getD (kind kw) 0
    ·exact q
    ·rw [if_pos (show (kw::g).length≠cnts.getD (kind ((kw::g).headD [])) 0 from q)] at h0;cases h0
   have h10:(kind kw=10→r.cl=true):=fun q=>by
    rw [←hc] at h0;unfold Jfj at h0;rw [if_neg (show ¬kind ((kw::g).headD [])=12 from by show ¬kind kw=12;omega),if_neg (show ¬(kw::g).length≠cnts.getD (kind ((kw::g).headD [])) 0 from fun x=>x hf)] at h0;rw [←L.cl] at h0;by_cases q1:r.cl=false
    ·rw [if_pos ⟨(show kind ((kw::g).headD [])=10 from q),q1⟩] at h0;cases h0
    ·simpa using q1
   have ht10:10<ts4.length:=by have:=PT4.tlen;omega
   have htl:15+kind kw<ts4.length:=by have:=PT4.tlen;omega
   have hl16:16<vs4.length:=by have:=PT4.vlen;omega
   have cl':(rcd F_ r (kw::g) n).2.cl=(decide (kw=wTr) || decide (kw=wCc)):=by
    rw [n1];show decide (kind kw=4∨kind kw=10)=_
    rw [←Bool.decide_or];refine decide_eq_decide.2 ?_;rw [J1d kw 4 Kd,J1d kw 10 Kd];exact Iff.rfl
   refine⟨_,_,U',kw,B,m',putL V kw v,if kind kw=10 then lx++[n] else lx,G',by rw [List.getElem?_set,if_neg Kl];exact e4,?_,⟨?_,?_,?_,fun j hj=>?_,fun y hy=>?_,cl',fun j hj=>?_,by have:=L.less;omega,?_,?_⟩,fun hq=>?_⟩
   ·rw [n1]
    exact PT4.frame (fun i _ _ h16=>by rw [List.getElem?_set,if_neg (fun q=>h16 q.symm)]) List.length_set (fun i hi=>by rw [List.getElem?_set,if_neg Kd,List.getElem?_set,if_neg Kd]) (by rw [List.length_set,List.length_set])
   ·rw [List.getElem?_set,if_neg Kl]
    exact L4.c15.trans ((hv3 15 Kd).trans L.c15)
   ·rw [List.getElem?_set,if_pos rfl,if_pos (by rw [List.length_set];exact ht10)]
   ·rw [List.getElem?_set,if_pos rfl,if_pos hl16]
   ·rw [n2 j hj,List.getElem?_set,if_neg Kd]
    by_cases q:j=kind kw
    ·subst q
     rw [List.getElem?_set,if_pos rfl,if_pos htl,if_pos rfl,hkg];unfold putL;rw [if_pos rfl]
    ·rw [List.getElem?_set,if_neg Kd,if_neg q,L4.tl _ Kd Kd,L.rows j hj]
     unfold putL;rw [if_neg (fun h=>J5r hj hk12 q (h.trans hkg.symm))]
   ·unfold putL
    rw [if_neg (fun h=>by
     subst h;have:=Jrb (kw:=y) Kd;exact hy (List.mem_of_getElem? this))]
    exact L.no y hy
   ·rw [n2 j hj]
    have:=L.few j hj;by_cases q:j=kind kw
    ·rw [if_pos q,Pp];simpa using this
    ·rw [if_neg q];omega
   ·rw [n1]
    show (if kind kw<10 then r.ln.modify (kind kw) (·++[n]) else r.ln).length=10
    split
    ·rw [List.length_modify];exact L.ten
    ·exact L.ten
   ·rw [n1]
    show 0≤if kind kw=11 then n else r.fa
    split
    ·omega
    ·exact L.fa
   ·have hT:(addR F_ r.T (kind kw) (kw::g)).2.tr≠[]:=by
     refine J1e F_ hk12 hf ?_;rw [n1] at hq;have hq:kind kw=4∨kind kw=10:=by simpa using hq
     rcases hq with h | h
     ·exact .inl h
     ·refine .inr fun e=>?_
      have hu:=hcl (h10 h);have hl:=congrArg List.length PT.cop.tr;rw [Pq,Pq,e] at hl;exact hu (List.length_eq_zero_iff.1 hl)
    intro e;have hl:=congrArg List.length PT4.cop.tr;rw [Pq,Pq,e] at hl;exact hT (List.length_eq_zero_iff.1 hl.symm)
 ·rw [if_pos hS] at hO
  rw [hO];have hsp:S4.splitR x=((splR x).1,(splR x).2):=rfl;refine (Qbf F W x _ _ n hsp hS hx).mono ?_;rintro e w' ⟨rfl,hb⟩;exact⟨rfl,G.base.trans (hb.mono G.base.size),fun h=>absurd h hS⟩
def nilR (w0:World) (t:TypeId) (k:Nat):Tng:=tRow w0.heap.size ⟨t,k,.slice none 0 0,0,[]⟩
theorem nilR.at (w0 W:World) (t:TypeId) (k:Nat):(nilR w0 t k).At w0.heap.size W:=tRow.at (World.ownsRow_nil _ _ _ _)
def vsN (n:Nat):List Value:=[.slice none 0 0,.int .i64 0,.slice none 0 0,.slice none 0 0,.slice none 0 0,.slice none 0 0,.slice none 0 0,.slice none 0 0,.slice none 0 0,.slice none 0 0,.slice none 0 0,.slice none 0 0,.int .i64 0,.int .i64 0,.int .i64 0,.map (some n),.string ⟨#[]⟩,.map (some (n+1)),.map (some (n+2)),.map (some (n+3)),.map (some (n+4))]
def tsA (w0:World):List Tng:=(List.range 10).map fun i=>nilR w0 (tyT i).1 (tyT i).2
def tsM (n:Nat):List Tng:=[tLin n 0 (fun _=>.slice none 0 0),tIdx (n+1) [],tIdx (n+2) [],tIdx (n+3) [],tIdx (n+4) []]
def tsL (w0:World):List Tng:=List.replicate 13 (nilR w0 3 1)
def tsN (w0:World) (n:Nat):List Tng:=tsA w0++(tsM n++tsL w0)
theorem J7y (w0:World) (n i:Nat) (t:Tng) (h:(tsN w0 n)[i]?=some t):(i<10∧t=nilR w0 (tyT i).1 (tyT i).2)∨(10≤i∧i<15∧(tsM n)[i - 10]?=some t)∨(15≤i∧i<28∧t=nilR w0 3 1):=by
 have la:(tsA w0).length=10:=rfl;have lm:(tsM n).length=5:=rfl;unfold tsN at h;by_cases h1:i<10
 ·rw [List.getElem?_append_left Kd] at h
  unfold tsA at h;rw [List.getElem?_map,List.getElem?_range h1] at h;exact .inl ⟨h1,(Po h).symm⟩
 ·rw [List.getElem?_append_right Kd,la] at h
  by_cases h2:i<15
  ·rw [List.getElem?_append_left Kd] at h
   exact .inr (.inl ⟨Kd,h2,h⟩)
  ·rw [List.getElem?_append_right Kd,lm] at h
   unfold tsL at h;rw [List.getElem?_replicate] at h;split at h
   ·exact .inr (.inr ⟨Kd,Kd,(Po h).symm⟩)
   ·cases h
theorem Qbh {n i g:Nat} {t:Tng} (h:(tsM n)[i]?=some t) (hg:t.own=some g):g=n+i:=by
 match i with
 | 0=>cases h;cases hg;rfl
 | 1=>cases h;cases hg;rfl
 | 2=>cases h;cases hg;rfl
 | 3=>cases h;cases hg;rfl
 | 4=>cases h;cases hg;rfl
 | i+5=>simp [tsM] at h
theorem Jrh {w0:World} {n i g:Nat} {t:Tng} (h:(tsN w0 n)[i]?=some t) (hg:t.own=some g):10≤i∧i<15∧g=n+(i - 10):=by
 rcases J7y w0 n i t h with ⟨_,rfl⟩ | ⟨h1,h2,h3⟩ | ⟨_,_,rfl⟩
 ·cases hg
 ·exact⟨h1,h2,Qbh h3 hg⟩
 ·cases hg
theorem J1f (k:Nat):lnK R0 [] k=[]:=by
 unfold lnK;split
 ·show ([[],[],[],[],[],[],[],[],[],[]]:List (List Int)).getD k []=[]
  match k with
  | 0 | 1 | 2 | 3 | 4 | 5 | 6 | 7 | 8 | 9=>rfl
  | _+10=>rfl
 ·split <;> rfl
theorem Qe9 {w0 W:World} {n:Nat} (hn:w0.heap.size=n) (hb:W.heap[n+5]?=some (.cells (vsN n).toArray 80 (0,0))) (h0:MapL W n 0 fun _=>.slice none 0 0) (h1:MapF W (n+1) []) (h2:MapF W (n+2) []) (h3:MapF W (n+3) []) (h4:MapF W (n+4) []) (b:Pn w0 W):Pa w0 (n+5) R0 0 W:=by
 have hl:n+5<W.heap.size:=(Pm hb).1;have hM:∀(i:Nat) (t:Tng),(tsM n)[i]?=some t→t.At w0.heap.size W:=fun i t h=>by
  match i with
  | 0=>cases h;exact tBlk.at h0 Kd Kd fun _ _ _ h1 hg hn=>h1.kept hg hn
  | 1=>cases h;exact tIdx.at h1 Kd
  | 2=>cases h;exact tIdx.at h2 Kd
  | 3=>cases h;exact tIdx.at h3 Kd
  | 4=>cases h;exact tIdx.at h4 Kd
  | i+5=>simp [tsM] at h
 refine⟨vsN n,tsN w0 n,T0,[],n,0,fun _=>.slice none 0 0,[],⟨hb,Kd,fun i t h=>?_,fun i t h e=>?_,fun i j a c hij ha hc g hg e=>?_,b⟩,rfl,⟨?_,?_,rfl,rfl,rfl,?_,fun j x h=>Gd,rfl,rfl,?_,fun x h=>Gd⟩,⟨rfl,rfl,rfl,fun k hk=>?_,fun _ _=>rfl,rfl,fun k hk=>by rw [J1f];exact Nat.le_refl _,Nat.le_refl _,rfl,Int.le_refl _⟩,fun h=>Qf⟩
 ·rcases J7y w0 n i t h with ⟨_,rfl⟩ | ⟨_,_,h⟩ | ⟨_,_,rfl⟩
  ·exact nilR.at _ _ _ _
  ·exact hM _ _ h
  ·exact nilR.at _ _ _ _
 ·have:=Jrh h e
  omega
 ·have h1:=Jrh ha hg
  have h2:=Jrh hc e;omega
 ·exact⟨rfl,rfl,rfl,rfl,rfl,rfl,rfl,rfl,rfl,rfl,rfl,rfl,rfl⟩
 ·intro i hi
  match i,hi with
  | 0,_ | 1,_ | 2,_ | 3,_ | 4,_ | 5,_ | 6,_ | 7,_ | 8,_ | 9,_=>exact⟨_,rfl,rfl,Nat.zero_le _⟩
 ·intro j hj
  match j,hj with
  | 0,_=>exact⟨n+1,rfl,rfl⟩
  | 1,_=>exact⟨n+2,rfl,rfl⟩
  | 2,_=>exact⟨n+3,rfl,rfl⟩
  | 3,_=>exact⟨n+4,rfl,rfl⟩
 ·intro i hi
  match i,hi with
  | 0,_ | 1,_ | 2,_ | 3,_ | 4,_ | 5,_ | 6,_ | 7,_ | 8,_ | 9,_=>exact Nat.le_refl _
 ·rw [J1f]
  match k,hk with
  | 0,_ | 1,_ | 2,_ | 3,_ | 4,_ | 5,_ | 6,_ | 7,_ | 8,_ | 9,_ | 10,_ | 11,_=>rfl
theorem Jjw (w:World) (o:Obj) {i:Nat} {x:Obj} (h:w.heap[i]?=some x):(w.alloc o).heap[i]?=some x :=
 (((Below.refl w.heap.size w).alloc Ph o).block i (Pm h).1).trans h
theorem MapF.alloc {w:World} {b:Nat} {l:List Bs} (h:MapF w b l) (o:Obj):MapF (w.alloc o) b l:=h.kept (Jbs ((Below.refl w.heap.size w).alloc Ph o) none) Kj
theorem MapL.alloc {w:World} {b n:Nat} {V:List UInt8→Value} (h:MapL w b n V) (o:Obj):MapL (w.alloc o) b n V:=h.kept (Jbs ((Below.refl w.heap.size w).alloc Ph o) none) Kj
theorem size_alloc (w:World) (o:Obj):(w.alloc o).heap.size=w.heap.size+1:=Kj
theorem Qbi (w:World):Calls prog 20 #[] w fun e w'=>e=.returned (.pointer (some ⟨w.heap.size+5,0,none⟩))∧Pa w (w.heap.size+5) R0 0 w':=by
 have m1:∀w:World,(Instr.makeMap 76 none).run prog w=.ok (.map (some w.heap.size)) (w.alloc (.map #[] 0)):=fun _=>Kk
 have m2:∀w:World,(Instr.makeMap 78 none).run prog w=.ok (.map (some w.heap.size)) (w.alloc (.map #[] 0)):=fun _=>Kk
 have H0:Hid (Pa w (w.heap.size+5) R0 0 ((((((w.alloc (.map #[] 0)).alloc (.map #[] 0)).alloc (.map #[] 0)).alloc (.map #[] 0)).alloc (.map #[] 0)).alloc (.cells (vsN w.heap.size).toArray 80 (0,0)))):=Pe (by
  have e:=size_alloc;refine Qe9 rfl ?_ ?_ ?_ ?_ ?_ ?_ ?_
  ·have:=heap_alloc_new (((((w.alloc (.map #[] 0)).alloc (.map #[] 0)).alloc (.map #[] 0)).alloc (.map #[] 0)).alloc (.map #[] 0)) (.cells (vsN w.heap.size).toArray 80 (0,0))
   exact Gc
  ·exact ((((MapL.made w).alloc _).alloc _).alloc _).alloc _ |>.alloc _
  ·have:=((((MapF.made (w.alloc (.map #[] 0))).alloc (.map #[] 0)).alloc (.map #[] 0)).alloc (.map #[] 0)).alloc (.cells (vsN w.heap.size).toArray 80 (0,0))
   exact Gc
  ·have:=(((MapF.made ((w.alloc (.map #[] 0)).alloc (.map #[] 0))).alloc (.map #[] 0)).alloc (.map #[] 0)).alloc (.cells (vsN w.heap.size).toArray 80 (0,0))
   exact Gc
  ·have:=((MapF.made (((w.alloc (.map #[] 0)).alloc (.map #[] 0)).alloc (.map #[] 0))).alloc (.map #[] 0)).alloc (.cells (vsN w.heap.size).toArray 80 (0,0))
   exact Gc
  ·have:=(MapF.made ((((w.alloc (.map #[] 0)).alloc (.map #[] 0)).alloc (.map #[] 0)).alloc (.map #[] 0))).alloc (.cells (vsN w.heap.size).toArray 80 (0,0))
   exact Gc
  ·exact ((((((Below.refl w.heap.size w).alloc Ph _).alloc Gb _).alloc Gb _).alloc Gb _).alloc Gb _).alloc Gb _)
 generalize hz:Pa w (w.heap.size+5) R0 0=Z at H0 ⊢;clear hz;go_enter func20,ntmps20;go_wp2_with fail;go_ret;exact⟨rfl,H0.out⟩
theorem Qfa (x:Bs):ign x=(decide (x=[]) || Go.Lib.hasPrefix x [35]):=by
 cases x with
 | nil=>rfl
 | cons a x =>
  unfold ign Go.Lib.hasPrefix;rw [List.isPrefixOf_cons_cons];simp [BEq.comm]
theorem Qbj (x:Bs) (w:World):Calls prog 21 #[.string (str x)] w fun e w'=>e=.returned (.bool (ign x))∧w'=w:=by
 have C0:=Pe (Tryz.strings_HasPrefix (str x) ⟨#[35]⟩ w);have e:Lib.hasPrefix (str x).data.toList (⟨#[35]⟩:ByteArray).data.toList=Go.Lib.hasPrefix x [35]:=rfl;rw [e] at C0;rw [Qfa];have k0:=Jat x [];have k1:((str x).toList==[])=decide (x=[]):=k0;clear e k0;generalize Go.Lib.hasPrefix x [35]=p at C0 ⊢;generalize decide (x=[])=q at k1 ⊢;generalize str x=s at C0 k1 ⊢;go_enter func21,ntmps21;cases q with
 | true =>
  exact Ki
 | false =>
  go_wp2_with fail;refine C0.out.mono ?_;rintro r w1 ⟨rfl,rfl⟩;exact Ki
def kdV:Array Value:=((kinds.take 10).map fun k=>Value.string (str k)).toArray
def Jpr (w:World):Prop:=w.var? prog "transit/feed.kinds"=some kdV
theorem Jua:prog.globalNamed "transit/feed.kinds"=some 0:=Kk
theorem Jpr.below {w w':World} (h:Jpr w) (b:Pn w w'):Jpr w':=var?_below b Jua (var_size Jua h) h
theorem Jpr.cell {w:World} (h:Jpr w) (m:Nat) (hm:m<10):w.cell? ⟨0,m,none⟩=some (.string (str (kinds.getD m []))):=by
 rw [World.var?_cell Jua h m];match m,hm with
 | 0,_ | 1,_ | 2,_ | 3,_ | 4,_ | 5,_ | 6,_ | 7,_ | 8,_ | 9,_=>rfl
theorem Qbk (B k:Nat) (hk:k<10) (W:World):(Instr.indexAt 105 (.pointer (some ⟨B,0,none⟩)) (.int .i64 (k:Int))).run prog W=.ok (.pointer (some ⟨B,k,none⟩)) W:=by
 have hT:=underlying105;have he:prog.elem 105=9:=Ju;have hl:prog.arrayLen 105=10:=Jt;rw [run_indexAt_array W 105 _ _ _ (by rw [he,hl];exact hT),hl,he,if_pos Kd];simp [sizeOf9,Addr.add];try exact fun h=>h.symm
theorem Jub (g n c k:Nat) (hk:k<n) (W:World):(Instr.indexAt 84 (.slice (some ⟨g,0,none⟩) n c) (.int .i64 (k:Int))).run prog W=.ok (.pointer (some ⟨g,k,none⟩)) W:=by
 have hn:(k:Int)<(n:Int):=Kd;have h0:(0:Int)≤(k:Int):=Kd;go_simp
 try simp [hk,hn,h0,Addr.add]
theorem fl_i1 (l:List Int):fl i1 l=l.map fun x=>.int .i64 x:=by
 induction l with
 | nil=>rfl
 | cons a l ih=>show .int .i64 a::fl i1 l=_;rw [ih];rfl
theorem Ln.at {w0 W:World} {F:Nat} {vs:List Value} {ts:List Tng} {r:Rd} {lw:Bs} {B m N:Nat} {V:List UInt8→Value} {lx:List Int} (L:Ln w0 vs ts r lw B m V lx N) (G:Gst w0 F 80 vs ts W) (k:Nat) (hk:k<12) (j:Nat) (y:Int) (hy:(lnK r lx k)[j]?=some y) :
  ∃gb n c,j<n∧V (kinds.getD k [])=.slice (some ⟨gb,0,none⟩) n c∧W.cell? ⟨gb,j,none⟩=some (.int .i64 y):=by
 have hj:=(Pl hy).1;obtain⟨A,c,hv,-,-,hx⟩:=Jbx (G.row (L.rows k hk));obtain⟨g,rfl,-,-,hc⟩:=hx (by show 0<(lnK r lx k).length;omega);refine⟨g,_,c,hj,hv,?_⟩;have:=hc j (.int .i64 y) (by show (fl i1 (lnK r lx k))[j]?=_;rw [fl_i1,List.getElem?_map,hy];rfl);rwa [Nat.zero_add] at this
theorem Qbl {w0 W:World} {F N:Nat} {r:Rd} (P:Pa w0 F r N W) (hg:Jpr W) (p:Nat) (hp:p<10) (i y:Int) (h:(i<0∧r.fa=y∧y≠0)∨∃j:Nat,i=(j:Int)∧(r.ln.getD p [])[j]?=some y) :
  Pc 24 #[.pointer (some ⟨F,0,none⟩),.int .i64 (p:Int),.int .i64 i] W (.int .i64 y):=by
 obtain⟨vs,ts,U,lw,B,m,V,lx,G,e1,PT,L,hcl⟩:=P;obtain⟨k0,k1⟩:=G.cell L.c15;rcases h with ⟨hi,hf,hy⟩ | ⟨j,rfl,hy⟩
 ·obtain⟨gb,n,c,hn,hv,hc⟩:=L.at G 11 Kd 0 y (by show (if r.fa=0 then [] else [r.fa])[0]?=some y;rw [if_neg Kd,hf];rfl)
  have LK:=(G.blk L.t10).1.look (str wFa) wFa rfl Kl;rw [show V wFa=_ from hv] at LK;have LK:(Instr.lookup 76 (.map (some B)) (.string ⟨#[102,97,114,101,115]⟩) false).run prog W=.ok (.slice (some ⟨gb,0,none⟩) n c) W:=LK;have hx:=Jub gb n c 0 hn W;have hd:decide (i<0)=true:=Pk hi;clear G PT L e1 hv hy hf hcl;go_enter func24,ntmps24;go_wp2_with fail;exact U1
 ·obtain⟨wd,hwd⟩:=Pi (World.drew W)
  have Bd:Pn W wd:=by rw [←hwd];exact (Below.refl _ _).drew
  have G:=G.on Bd;have k0:=(G.cell L.c15).1;obtain⟨gb,n,c,hj,hv,hc⟩:=L.at G p Kd j y (by unfold lnK;rw [if_pos hp];exact hy);have hk:(kinds.getD p []).length≤4611686018427387904:=by
   match p,hp with
   | 0,_ | 1,_ | 2,_ | 3,_ | 4,_ | 5,_ | 6,_ | 7,_ | 8,_ | 9,_=>decide
  have LK:=(G.blk L.t10).1.look (str (kinds.getD p [])) (kinds.getD p []) rfl hk;rw [hv] at LK;have KC:=(hg.below Bd).cell p hp;have HB:=Pe Bd;generalize str (kinds.getD p [])=s at LK KC;have hd:decide ((j:Int)<0)=false:=Pj Kd;clear G PT L e1 hv hy hcl k1 Bd hg;go_enter func24,ntmps24;go_wp2_with fail;refine Jbg (S:=fun X=>X.cell? ⟨F,15,none⟩=some (.map (some B))∧(Instr.lookup 76 (.map (some B)) (.string s) false).run prog X=.ok (.slice (some ⟨gb,0,none⟩) n c) X∧X.cell? ⟨0,p,none⟩=some (.string s)∧X.cell? ⟨gb,j,none⟩=some (.int .i64 y)) _ 12 rfl Kk Kk Kk (Jbm 12 0) Kk (by rw [hwd];exact⟨k0,LK,KC,hc⟩) (fun _=>?_);rw [hwd];refine Jbc (L:=[(0,16,pt F 0),(1,17,pt F 0),(2,18,pt F 15),(3,19,.map (some B)),(4,20,.int .i64 (p:Int)),(5,21,pt 0 p),(6,22,.string s),(7,23,.slice (some ⟨gb,0,none⟩) n c),(8,24,.int .i64 (j:Int)),(9,25,pt gb j),(10,26,.int .i64 y),(11,6,.int .i64 y)]) (.q (.q (.q (.cons rfl rfl (.inl ⟨rfl,fun X h=>Ga⟩) (.q (.cons rfl rfl (.inl ⟨rfl,fun X h=>by obtain⟨h0,h1,h2,h3⟩:=h;dsimp only [pt];have:=Qbk 0 p hp X;go_simp;try with_reducible rfl⟩) (.cons rfl rfl (.inl ⟨rfl,fun X h=>Ga⟩) (.cons rfl rfl (.inl ⟨rfl,fun X h=>Ga⟩) (.q (.cons rfl rfl (.inl ⟨rfl,fun X h=>by obtain⟨h0,h1,h2,h3⟩:=h;dsimp only [pt];have:=Jub gb n c j hj X;go_simp;try with_reducible rfl⟩) (.cons rfl rfl (.inl ⟨rfl,fun X h=>Ga⟩) (.q .nil)))))))))))) [0,1,2,3,4,5,6,7,8,9,10,11] rfl rfl Kk (fun _ _ _ _ _ h=>h) ⟨k0,LK,KC,hc⟩ ?_;refine Jcf Kk ?_;go_wp2_with fail;go_ret;exact⟨Kk,HB.out⟩
open Go.RowKit Go.ChangeShapes Go.WideShapes Go.Deep
instance:Inhabited Cl:=⟨(0,0,0,false,false)⟩
instance:Inhabited Tp:=⟨([],0,0,false,.slice none 0 0,[])⟩
abbrev ttV (a:Nat→Option Addr) (c:Nat→Nat) (T:Tt):Value:=.agg #[.slice (a 0) T.st.length (c 0),.slice (a 1) T.ro.length (c 1),.slice (a 2) T.ca.length (c 2),.slice (a 3) T.ex.length (c 3),.slice (a 4) T.tr.length (c 4),.slice (a 5) T.fr.length (c 5),.slice (a 6) T.th.length (c 6),.slice (a 7) T.gu.length (c 7),.slice (a 8) T.pa.length (c 8),.slice (a 9) T.pr.length (c 9),.int .i64 T.di,.int .i64 T.wi,.int .i64 T.cp]
abbrev Jbh (a:Nat→Option Addr) (c:Nat→Nat) (T:Tt):Obj:=.cells #[.slice (a 0) T.st.length (c 0),.slice (a 1) T.ro.length (c 1),.slice (a 2) T.ca.length (c 2),.slice (a 3) T.ex.length (c 3),.slice (a 4) T.tr.length (c 4),.slice (a 5) T.fr.length (c 5),.slice (a 6) T.th.length (c 6),.slice (a 7) T.gu.length (c 7),.slice (a 8) T.pa.length (c 8),.slice (a 9) T.pr.length (c 9),.int .i64 T.di,.int .i64 T.wi,.int .i64 T.cp] 36 (0,0)
def TtL (W:World) (a:Nat→Option Addr) (c:Nat→Nat) (T:Tt):Prop :=
 S13.LstS W (.slice (a 0) T.st.length (c 0)) T.st∧S15.LstR W (.slice (a 1) T.ro.length (c 1)) T.ro∧S14.LstC W (.slice (a 2) T.ca.length (c 2)) T.ca∧S14.LstX W (.slice (a 3) T.ex.length (c 3)) T.ex∧Jcp W (.slice (a 4) T.tr.length (c 4)) T.tr∧LstF W (.slice (a 5) T.fr.length (c 5)) T.fr∧S19.LstH W (.slice (a 6) T.th.length (c 6)) T.th∧S19.LstU W (.slice (a 7) T.gu.length (c 7)) T.gu∧S20.LstF W (.slice (a 8) T.pa.length (c 8)) T.pa∧S21.LstPd W (.slice (a 9) T.pr.length (c 9)) T.pr
theorem TtL.below {W W':World} {a:Nat→Option Addr} {c:Nat→Nat} {T:Tt} (h:TtL W a c T) (b:Pn W W'):TtL W' a c T:=by
 obtain⟨h0,h1,h2,h3,h4,h5,h6,h7,h8,h9⟩:=h;exact⟨h0.below b,h1.below b,h2.below b,h3.below b,h4.below b,h5.below b,h6.below b,h7.below b,h8.below b,h9.below b⟩
theorem TtL.st {W:World} {a:Nat→Option Addr} {c:Nat→Nat} {T:Tt} (h:TtL W a c T):S13.LstS W (.slice (a 0) T.st.length (c 0)) T.st:=h.1
theorem TtL.ro {W:World} {a:Nat→Option Addr} {c:Nat→Nat} {T:Tt} (h:TtL W a c T):S15.LstR W (.slice (a 1) T.ro.length (c 1)) T.ro:=h.2.1
theorem TtL.ca {W:World} {a:Nat→Option Addr} {c:Nat→Nat} {T:Tt} (h:TtL W a c T):S14.LstC W (.slice (a 2) T.ca.length (c 2)) T.ca:=h.2.2.1
theorem TtL.ex {W:World} {a:Nat→Option Addr} {c:Nat→Nat} {T:Tt} (h:TtL W a c T):S14.LstX W (.slice (a 3) T.ex.length (c 3)) T.ex:=h.2.2.2.1
theorem TtL.tr {W:World} {a:Nat→Option Addr} {c:Nat→Nat} {T:Tt} (h:TtL W a c T):Jcp W (.slice (a 4) T.tr.length (c 4)) T.tr:=h.2.2.2.2.1
theorem TtL.fr {W:World} {a:Nat→Option Addr} {c:Nat→Nat} {T:Tt} (h:TtL W a c T):LstF W (.slice (a 5) T.fr.length (c 5)) T.fr:=h.2.2.2.2.2.1
theorem TtL.th {W:World} {a:Nat→Option Addr} {c:Nat→Nat} {T:Tt} (h:TtL W a c T):S19.LstH W (.slice (a 6) T.th.length (c 6)) T.th:=h.2.2.2.2.2.2.1
theorem TtL.gu {W:World} {a:Nat→Option Addr} {c:Nat→Nat} {T:Tt} (h:TtL W a c T):S19.LstU W (.slice (a 7) T.gu.length (c 7)) T.gu:=h.2.2.2.2.2.2.2.1
theorem TtL.pa {W:World} {a:Nat→Option Addr} {c:Nat→Nat} {T:Tt} (h:TtL W a c T):S20.LstF W (.slice (a 8) T.pa.length (c 8)) T.pa:=h.2.2.2.2.2.2.2.2.1
theorem TtL.pr {W:World} {a:Nat→Option Addr} {c:Nat→Nat} {T:Tt} (h:TtL W a c T):S21.LstPd W (.slice (a 9) T.pr.length (c 9)) T.pr:=h.2.2.2.2.2.2.2.2.2
theorem Jak {w:World} {k:Nat} {a:Nat→Option Addr} {c:Nat→Nat} {T:Tt} (h:w.heap[k]?=some (Jbh a c T)) :
  w.cell? ⟨k,0,none⟩=some (.slice (a 0) T.st.length (c 0))∧w.cell? ⟨k,1,none⟩=some (.slice (a 1) T.ro.length (c 1))∧w.cell? ⟨k,2,none⟩=some (.slice (a 2) T.ca.length (c 2))∧w.cell? ⟨k,3,none⟩=some (.slice (a 3) T.ex.length (c 3))∧w.cell? ⟨k,4,none⟩=some (.slice (a 4) T.tr.length (c 4))∧w.cell? ⟨k,5,none⟩=some (.slice (a 5) T.fr.length (c 5))∧w.cell? ⟨k,6,none⟩=some (.slice (a 6) T.th.length (c 6))∧w.cell? ⟨k,7,none⟩=some (.slice (a 7) T.gu.length (c 7))∧w.cell? ⟨k,8,none⟩=some (.slice (a 8) T.pa.length (c 8))∧w.cell? ⟨k,9,none⟩=some (.slice (a 9) T.pr.length (c 9))∧w.cell? ⟨k,10,none⟩=some (.int .i64 T.di)∧w.cell? ⟨k,11,none⟩=some (.int .i64 T.wi)∧w.cell? ⟨k,12,none⟩=some (.int .i64 T.cp) :=
 ⟨Jk,Jj,Jn,Jm,Jq,by rw [cell_of_row _ _ 5 _ _ _ h];rfl,by rw [cell_of_row _ _ 6 _ _ _ h];rfl,by rw [cell_of_row _ _ 7 _ _ _ h];rfl,by rw [cell_of_row _ _ 8 _ _ _ h];rfl,by rw [cell_of_row _ _ 9 _ _ _ h];rfl,by rw [cell_of_row _ _ 10 _ _ _ h];rfl,by rw [cell_of_row _ _ 11 _ _ _ h];rfl,by rw [cell_of_row _ _ 12 _ _ _ h];rfl⟩
theorem Jcb {w w7:World} {a:Nat→Option Addr} {c:Nat→Nat} {T:Tt} (h:w.alloc (Jbh a c T)=w7) :
  Pn w w7∧w.heap.size<w7.heap.size∧w7.heap[w.heap.size]?=some (Jbh a c T):=by
 subst h;exact⟨(Below.refl _ _).alloc Ph _,Kj,heap_alloc_new w _⟩
def OkTt (T:Tt):Prop:=(∀(j:Nat) x,T.ex[j]?=some x→S14.Pl64 (S14.plX x))∧S19.Th64 T.th∧S19.Gus64 T.gu∧S20.L64 T.pa
def LnTt (T:Tt):Prop:=T.st.length≤9223372036854775807∧T.ro.length≤9223372036854775807∧T.ca.length≤9223372036854775807∧T.ex.length≤9223372036854775807∧T.tr.length≤9223372036854775807∧T.fr.length≤9223372036854775807∧T.th.length≤9223372036854775807∧T.gu.length≤9223372036854775807∧T.pa.length≤9223372036854775807∧T.pr.length≤9223372036854775807
instance:Inhabited S13.St:=⟨([],0,false,0)⟩
instance:Inhabited Rt:=⟨([],0,false)⟩
instance:Inhabited S14.Cl:=⟨([],fun _=>false,0,0)⟩
instance:Inhabited S14.Ex:=⟨(0,0,false)⟩
instance:Inhabited Fq:=⟨(0,0,0,0)⟩
instance:Inhabited S19.Th:=⟨(0,0)⟩
instance:Inhabited S19.Gt:=⟨(0,0,0)⟩
instance:Inhabited S20.Fp:=⟨(0,0,0,false)⟩
instance:Inhabited S21.Pd:=⟨([],0,0,0,0,0)⟩
theorem Juc {a b:ByteArray} (h:a.toList=b.toList):a=b:=by
 rcases Classical.em (a=b) with e | e
 ·exact e
 ·have:=Jb7 e
  rw [h] at this;simp at this
theorem Jjx {a b:List UInt8} (h:str a=str b):a=b:=by
 exact Wr
theorem J1g (x1 x2 x3 x4 x5 x6 x7 y1 y2 y3 y4 y5 y6 y7:Bool) (W:World) (m:Nat) :
  (Op.equalIn (m+1+1) 59 (.agg #[.bool x1,.bool x2,.bool x3,.bool x4,.bool x5,.bool x6,.bool x7]) (.agg #[.bool y1,.bool y2,.bool y3,.bool y4,.bool y5,.bool y6,.bool y7])).run prog W=.ok (decide (x1=y1∧x2=y2∧x3=y3∧x4=y4∧x5=y5∧x6=y6∧x7=y7)) W:=by
 have ub:=underlying4;have ab:=isAgg4;have zb:=sizeOf4;have r7:List.range' 0 7=[0,1,2,3,4,5,6]:=rfl;have P:∀(p1 p2 p3 p4 p5 p6 p7:Bool) (W:World),(part 4 #[.bool p1,.bool p2,.bool p3,.bool p4,.bool p5,.bool p6,.bool p7] (0*1)).run prog W=.ok (.bool p1) W∧(part 4 #[.bool p1,.bool p2,.bool p3,.bool p4,.bool p5,.bool p6,.bool p7] (1*1)).run prog W=.ok (.bool p2) W∧(part 4 #[.bool p1,.bool p2,.bool p3,.bool p4,.bool p5,.bool p6,.bool p7] (2*1)).run prog W=.ok (.bool p3) W∧(part 4 #[.bool p1,.bool p2,.bool p3,.bool p4,.bool p5,.bool p6,.bool p7] (3*1)).run prog W=.ok (.bool p4) W∧(part 4 #[.bool p1,.bool p2,.bool p3,.bool p4,.bool p5,.bool p6,.bool p7] (4*1)).run prog W=.ok (.bool p5) W∧(part 4 #[.bool p1,.bool p2,.bool p3,.bool p4,.bool p5,.bool p6,.bool p7] (5*1)).run prog W=.ok (.bool p6) W∧(part 4 #[.bool p1,.bool p2,.bool p3,.bool p4,.bool p5,.bool p6,.bool p7] (6*1)).run prog W=.ok (.bool p7) W:=by
  intro p1 p2 p3 p4 p5 p6 p7 W;simp [part,ab]
 have E:∀(x y:Bool) (W:World),(Op.equalIn (m+1) 4 (.bool x) (.bool y)).run prog W=.ok (x==y) W:=fun x y W=>run_equalIn_bool W m _ x y ub
 rw [Op.equalIn];simp only [Sem.run_bind,run_underlying underlying59,Result.andThen_ok,zb];by_cases h1:x1=y1;case neg=>simp [P,E,r7,h1]
 by_cases h2:x2=y2
 case neg=>simp [P,E,r7,h1,h2]
 by_cases h3:x3=y3
 case neg=>simp [P,E,r7,h1,h2,h3]
 by_cases h4:x4=y4
 case neg=>simp [P,E,r7,h1,h2,h3,h4]
 by_cases h5:x5=y5
 case neg=>simp [P,E,r7,h1,h2,h3,h4,h5]
 by_cases h6:x6=y6
 case neg=>simp [P,E,r7,h1,h2,h3,h4,h5,h6]
 by_cases h7:x7=y7
 case neg=>simp [P,E,r7,h1,h2,h3,h4,h5,h6,h7]
 simp [P,E,r7,h1,h2,h3,h4,h5,h6,h7]
theorem J1h (x0 y0:ByteArray) (x1 y1:Int) (x2 y2:Bool) (x3 y3:Int) (h:¬(x0=y0∧x1=y1∧x2=y2∧x3=y3)) (W:World):(binOp BinOp.neq 112 (.agg #[.string x0,.int .i64 x1,.bool x2,.int .i64 x3]) (.agg #[.string y0,.int .i64 y1,.bool y2,.int .i64 y3])).run prog W=.ok (.bool true) W:=by
 go_simp
 exact fun h0 h1 h2 h3=>h ⟨Juc h0,h1,h2,h3⟩
theorem Jri (x0:ByteArray) (x1:Int) (x2:Bool) (x3:Int) (W:World):(binOp BinOp.neq 112 (.agg #[.string x0,.int .i64 x1,.bool x2,.int .i64 x3]) (.agg #[.string x0,.int .i64 x1,.bool x2,.int .i64 x3])).run prog W=.ok (.bool false) W:=U0
theorem J1i (x0 y0:ByteArray) (x1 y1:Int) (x2 y2:Bool) (h:¬(x0=y0∧x1=y1∧x2=y2)) (W:World):(binOp BinOp.neq 114 (.agg #[.string x0,.int .i64 x1,.bool x2]) (.agg #[.string y0,.int .i64 y1,.bool y2])).run prog W=.ok (.bool true) W:=by
 go_simp
 exact fun h0 h1 h2=>h ⟨Juc h0,h1,h2⟩
theorem Jrj (x0:ByteArray) (x1:Int) (x2:Bool) (W:World):(binOp BinOp.neq 114 (.agg #[.string x0,.int .i64 x1,.bool x2]) (.agg #[.string x0,.int .i64 x1,.bool x2])).run prog W=.ok (.bool false) W:=U0
theorem J1j (x0 y0:ByteArray) (x1 y1:Bool) (x2 y2:Bool) (x3 y3:Bool) (x4 y4:Bool) (x5 y5:Bool) (x6 y6:Bool) (x7 y7:Bool) (x8 y8:Int) (x9 y9:Int) (h:¬(x0=y0∧x1=y1∧x2=y2∧x3=y3∧x4=y4∧x5=y5∧x6=y6∧x7=y7∧x8=y8∧x9=y9)) (W:World):(binOp BinOp.neq 61 (.agg #[.string x0,.bool x1,.bool x2,.bool x3,.bool x4,.bool x5,.bool x6,.bool x7,.int .i64 x8,.int .i64 x9]) (.agg #[.string y0,.bool y1,.bool y2,.bool y3,.bool y4,.bool y5,.bool y6,.bool y7,.int .i64 y8,.int .i64 y9])).run prog W=.ok (.bool true) W:=by
 have E:=J1g x1 x2 x3 x4 x5 x6 x7 y1 y2 y3 y4 y5 y6 y7 W 9997;by_cases hb:x1=y1∧x2=y2∧x3=y3∧x4=y4∧x5=y5∧x6=y6∧x7=y7
 ·obtain⟨rfl,rfl,rfl,rfl,rfl,rfl,rfl⟩:=hb
  rw [Pk ⟨rfl,rfl,rfl,rfl,rfl,rfl,rfl⟩] at E;go_simp;exact fun h0 h8 h9=>h ⟨Juc h0,rfl,rfl,rfl,rfl,rfl,rfl,rfl,h8,h9⟩
 ·rw [Pj hb] at E
  clear h hb;go_simp
theorem Jrk (x0:ByteArray) (x1:Bool) (x2:Bool) (x3:Bool) (x4:Bool) (x5:Bool) (x6:Bool) (x7:Bool) (x8:Int) (x9:Int) (W:World):(binOp BinOp.neq 61 (.agg #[.string x0,.bool x1,.bool x2,.bool x3,.bool x4,.bool x5,.bool x6,.bool x7,.int .i64 x8,.int .i64 x9]) (.agg #[.string x0,.bool x1,.bool x2,.bool x3,.bool x4,.bool x5,.bool x6,.bool x7,.int .i64 x8,.int .i64 x9])).run prog W=.ok (.bool false) W:=by
 have E:=J1g x1 x2 x3 x4 x5 x6 x7 x1 x2 x3 x4 x5 x6 x7 W 9997;rw [Pk ⟨rfl,rfl,rfl,rfl,rfl,rfl,rfl⟩] at E;go_simp
theorem J1k (x0 y0:Int) (x1 y1:Int) (x2 y2:Bool) (h:¬(x0=y0∧x1=y1∧x2=y2)) (W:World):(binOp BinOp.neq 116 (.agg #[.int .i64 x0,.int .i64 x1,.bool x2]) (.agg #[.int .i64 y0,.int .i64 y1,.bool y2])).run prog W=.ok (.bool true) W:=by
 go_simp
 exact fun h0 h1 h2=>h ⟨h0,h1,h2⟩
theorem Jrl (x0:Int) (x1:Int) (x2:Bool) (W:World):(binOp BinOp.neq 116 (.agg #[.int .i64 x0,.int .i64 x1,.bool x2]) (.agg #[.int .i64 x0,.int .i64 x1,.bool x2])).run prog W=.ok (.bool false) W:=U0
theorem J1l (x0 y0:Int) (x1 y1:Int) (x2 y2:Int) (x3 y3:Bool) (x4 y4:Bool) (h:¬(x0=y0∧x1=y1∧x2=y2∧x3=y3∧x4=y4)) (W:World):(binOp BinOp.neq 58 (.agg #[.int .i64 x0,.int .i64 x1,.int .i64 x2,.bool x3,.bool x4]) (.agg #[.int .i64 y0,.int .i64 y1,.int .i64 y2,.bool y3,.bool y4])).run prog W=.ok (.bool true) W:=by
 go_simp
 exact fun h0 h1 h2 h3 h4=>h ⟨h0,h1,h2,h3,h4⟩
theorem Jrm (x0:Int) (x1:Int) (x2:Int) (x3:Bool) (x4:Bool) (W:World):(binOp BinOp.neq 58 (.agg #[.int .i64 x0,.int .i64 x1,.int .i64 x2,.bool x3,.bool x4]) (.agg #[.int .i64 x0,.int .i64 x1,.int .i64 x2,.bool x3,.bool x4])).run prog W=.ok (.bool false) W:=U0
theorem Jjy (x0:Int) (x1:Int) (x2:Int) (x3:Bool) (x4:Bool) (W:World):(binOp BinOp.eql 58 (.agg #[.int .i64 x0,.int .i64 x1,.int .i64 x2,.bool x3,.bool x4]) (.agg #[.int .i64 x0,.int .i64 x1,.int .i64 x2,.bool x3,.bool x4])).run prog W=.ok (.bool true) W:=U0
theorem J1m (x0 y0:Int) (x1 y1:Int) (x2 y2:Int) (x3 y3:Int) (h:¬(x0=y0∧x1=y1∧x2=y2∧x3=y3)) (W:World):(binOp BinOp.neq 118 (.agg #[.int .i64 x0,.int .i64 x1,.int .i64 x2,.int .i64 x3]) (.agg #[.int .i64 y0,.int .i64 y1,.int .i64 y2,.int .i64 y3])).run prog W=.ok (.bool true) W:=by
 go_simp
 exact fun h0 h1 h2 h3=>h ⟨h0,h1,h2,h3⟩
theorem Jrn (x0:Int) (x1:Int) (x2:Int) (x3:Int) (W:World):(binOp BinOp.neq 118 (.agg #[.int .i64 x0,.int .i64 x1,.int .i64 x2,.int .i64 x3]) (.agg #[.int .i64 x0,.int .i64 x1,.int .i64 x2,.int .i64 x3])).run prog W=.ok (.bool false) W:=U0
theorem J1n (x0 y0:Int) (x1 y1:Int) (h:¬(x0=y0∧x1=y1)) (W:World):(binOp BinOp.neq 120 (.agg #[.int .i64 x0,.int .i64 x1]) (.agg #[.int .i64 y0,.int .i64 y1])).run prog W=.ok (.bool true) W:=by
 go_simp
 exact fun h0 h1=>h ⟨h0,h1⟩
theorem Jro (x0:Int) (x1:Int) (W:World):(binOp BinOp.neq 120 (.agg #[.int .i64 x0,.int .i64 x1]) (.agg #[.int .i64 x0,.int .i64 x1])).run prog W=.ok (.bool false) W:=U0
theorem J1o (x0 y0:Int) (x1 y1:Int) (x2 y2:Int) (h:¬(x0=y0∧x1=y1∧x2=y2)) (W:World):(binOp BinOp.neq 122 (.agg #[.int .i64 x0,.int .i64 x1,.int .i64 x2]) (.agg #[.int .i64 y0,.int .i64 y1,.int .i64 y2])).run prog W=.ok (.bool true) W:=by
 go_simp
 exact fun h0 h1 h2=>h ⟨h0,h1,h2⟩
theorem Jrp (x0:Int) (x1:Int) (x2:Int) (W:World):(binOp BinOp.neq 122 (.agg #[.int .i64 x0,.int .i64 x1,.int .i64 x2]) (.agg #[.int .i64 x0,.int .i64 x1,.int .i64 x2])).run prog W=.ok (.bool false) W:=U0
theorem J1p (x0 y0:Int) (x1 y1:Int) (x2 y2:Int) (x3 y3:Bool) (h:¬(x0=y0∧x1=y1∧x2=y2∧x3=y3)) (W:World):(binOp BinOp.neq 63 (.agg #[.int .i64 x0,.int .i64 x1,.int .i64 x2,.bool x3]) (.agg #[.int .i64 y0,.int .i64 y1,.int .i64 y2,.bool y3])).run prog W=.ok (.bool true) W:=by
 go_simp
 exact fun h0 h1 h2 h3=>h ⟨h0,h1,h2,h3⟩
theorem Jrq (x0:Int) (x1:Int) (x2:Int) (x3:Bool) (W:World):(binOp BinOp.neq 63 (.agg #[.int .i64 x0,.int .i64 x1,.int .i64 x2,.bool x3]) (.agg #[.int .i64 x0,.int .i64 x1,.int .i64 x2,.bool x3])).run prog W=.ok (.bool false) W:=U0
theorem Jrr (x0:Int) (x1:Int) (x2:Int) (x3:Bool) (W:World):(binOp BinOp.eql 63 (.agg #[.int .i64 x0,.int .i64 x1,.int .i64 x2,.bool x3]) (.agg #[.int .i64 x0,.int .i64 x1,.int .i64 x2,.bool x3])).run prog W=.ok (.bool true) W:=U0
theorem J1q (x0 y0:ByteArray) (x1 y1:Int) (x2 y2:Int) (x3 y3:Int) (x4 y4:Int) (x5 y5:Int) (h:¬(x0=y0∧x1=y1∧x2=y2∧x3=y3∧x4=y4∧x5=y5)) (W:World):(binOp BinOp.neq 65 (.agg #[.string x0,.int .i64 x1,.int .i64 x2,.int .i64 x3,.int .i64 x4,.int .i64 x5]) (.agg #[.string y0,.int .i64 y1,.int .i64 y2,.int .i64 y3,.int .i64 y4,.int .i64 y5])).run prog W=.ok (.bool true) W:=by
 go_simp
 exact fun h0 h1 h2 h3 h4 h5=>h ⟨Juc h0,h1,h2,h3,h4,h5⟩
theorem Jrs (x0:ByteArray) (x1:Int) (x2:Int) (x3:Int) (x4:Int) (x5:Int) (W:World):(binOp BinOp.neq 65 (.agg #[.string x0,.int .i64 x1,.int .i64 x2,.int .i64 x3,.int .i64 x4,.int .i64 x5]) (.agg #[.string x0,.int .i64 x1,.int .i64 x2,.int .i64 x3,.int .i64 x4,.int .i64 x5])).run prog W=.ok (.bool false) W:=U0
def manN (T:Tt):Prop:=T.st.length≤100000∧T.ro.length≤100000∧T.ca.length≤100000∧T.ex.length≤100000∧T.tr.length≤100000∧T.fr.length≤5000∧T.th.length≤100000∧T.gu.length≤100000∧T.pa.length≤100000∧T.pr.length≤100000
instance (T:Tt):Decidable (manN T):=by unfold manN;infer_instance
def manT (T:Tt):Bool:=decide (manN T)&&T.tr.all fun x=>decide ((clT x).length≤100000)
theorem Jbe {T:Tt}:manT T=true↔manN T∧∀x∈T.tr,(clT x).length≤100000:=by
 unfold manT;rw [Bool.and_eq_true,decide_eq_true_iff,List.all_eq_true];exact⟨fun h=>⟨h.1,fun x hx=>of_decide_eq_true (h.2 x hx)⟩,fun h=>⟨h.1,fun x hx=>Pk (h.2 x hx)⟩⟩
def CkM:Prop:=∀(a:Nat→Option Addr) (c:Nat→Nat) (T:Tt) (w:World),manT T=true→OkTt T→LnTt T→TtL w a c T→Pc 23 #[ttV a c T] w (.tuple #[.int .i64 ((ttC T).1),.int .i64 ((ttC T).2.1),.int .i64 ((ttC T).2.2)])
end
end Go.Proofs.YtpifdbphmnifdaaGreatDoor
