/-
  Facts. Condition: each theorem's own.
-/
import Derived.Test.YtpifdbphmnifdaaGreatDoorYF17
set_option maxRecDepth 100000
set_option maxHeartbeats 8000000
section
variable {p:Prop}
theorem Gx(h:p:=by rw[cell_of_row _ _ j _ _ _ q3.arr];exact CA.out):p:=h
end
open Go.Proofs.Tryz
namespace Go.Proofs.YtpifdbphmnifdaaGreatDoor
section
open Go.RowKit
def Lq(W0:World)(o:Obj)(q:Value)(X:World):Prop:=∃b,q=.pointer (some ⟨b,0,none⟩)/\W0.heap.size<=b/\X.heap[b]?=some o
section
variable {F:Nat} {vs:List Value} {g:List Bs} {W0 X:World} {f:FuncId} {x:Array Value} {k k':Nat} {e e':Int} {u:Value}
theorem Rdr.run(h:Rdr F vs g W0 f x k e u k' e')(o:Obj)(X:World)(hX:Nx F vs g W0 k e X):Calls prog f x X fun r X'=>r=.returned u/\Nx F vs g W0 k' e' X'/\∀q,Lq W0 o q X->Lq W0 o q X' :=
 (h X hX).mono fun r X' hh=>⟨hh.1,hh.2.1,fun q ⟨b,e,h0,h1⟩=>⟨b,e,h0,hh.2.2 b o (by have:=hX.2.1;omega) h1⟩⟩
theorem Nx.new(o:Obj)(X:World)(h:Nx F vs g W0 k e X):Nx F vs g W0 k e (X.alloc o)/\Lq W0 o (.pointer (some ⟨X.heap.size,0,none⟩)) (X.alloc o) :=
 ⟨h.on ((Below.refl _ _).alloc Ph _),_,rfl,h.1.size,heap_alloc_new X o⟩
theorem Jur{s:Bs}:∀{ls:List Bs},s∈ls->ls.findIdx? (fun x=>decide (x=s))=some (ls.idxOf s)
 | a::ls,h=>by
  by_cases e:a=s
  ·subst e
   simp[List.findIdx?_cons]
  ·have hm:s∈ls:=(List.mem_cons.1 h).elim (fun h=>absurd h.symm e) id
   have eb:(a==s)=false:=Jd;simp[List.findIdx?_cons,List.idxOf_cons,e,eb,Jur hm]
theorem Qb1{ls:List Bs}{s:Bs}:(if s∈ls then(ls.idxOf s:Int) else 0)=(fnd 9 ls s).1/\decide (s∈ls)=decide ((fnd 9 ls s).2=0):=by
 by_cases h:s∈ls
 ·unfold fnd
  rw[if_pos h,Jur h];exact⟨rfl,X7⟩
 ·rw[if_neg h,Jnd (fun j _ q=>h (List.mem_iff_getElem?.2 ⟨j,q⟩))]
  exact⟨rfl,X7⟩
theorem Jdf(B:Nat)(ids:List Bs)(hM:MapF W0 B ids)(hB:B≠F)(k:Nat)(e:Int)(hg:(g.getD k []).length<=65536):Rdr F vs g W0 181 #[.pointer (some ⟨F,0,none⟩),.map (some B)] k e (.int .i64 (fnd 9 ids (g.getD k [])).1) (k+1) (fe1 e (fnd 9 ids (g.getD k [])).2):=by
 intro W h;have C1:=Pe (Jbt (F:=F) (vs:=vs) (g:=g) (W0:=W0) k e W h);have M:=Pe (fun(w:World) (hw:W0.grownBy w (some F))=>(hM.kept hw (by simpa using hB)).look (str (g.getD k [])) (g.getD k []) rfl Ka);have E:Hid ((if decide ((fnd 9 ids (g.getD k [])).2=0)=true then e else fe1 e 9)=fe1 e (fnd 9 ids (g.getD k [])).2):=Pe (J2k _ _ _ _);obtain⟨i1,i2⟩:=Qb1 (ls:=ids) (s:=g.getD k []);rw[i1,i2] at M;clear i1 i2 hM hg;generalize str (g.getD k [])=s at C1 M;generalize fnd 9 ids (g.getD k [])=q at M E |-;obtain⟨b,hb⟩:=Pi (decide (q.2=0));rw[hb] at M E;have C3:=Pe (fun W'=>Jdu (F:=F) (vs:=vs) (g:=g) (W0:=W0) b 9 (k+1) e W');clear h hb;go_enter func181,ntmps181;go_wp2_with fail;refine C1.out.mono ?_;rintro r w1 ⟨rfl,n1,s1⟩;have m1:=M.out w1 n1.1;have D3:=Pe (C3.out w1 n1);have S1:=Pe s1;clear n1 s1 C1 C3 M;go_wp2_with fail;refine D3.out.mono ?_;exact Gq
theorem J6b(k:Nat)(e:Int):Rdr F vs g W0 184 #[.pointer (some ⟨F,0,none⟩)] k e (.tuple #[.bool (decide ((prm (g.getD k [])).1=1\/(prm (g.getD k [])).1=3)),.bool (decide (2<=(prm (g.getD k [])).1))]) (k+1) (fe1 e (prm (g.getD k [])).2):=by
 intro W h;have C1:=Pe (Jbt (F:=F) (vs:=vs) (g:=g) (W0:=W0) k e W h);obtain⟨t,ht⟩:=Pi (g.getD k []);rw[ht] at C1 |-;have C3:=Pe (fun b W'=>Jdu (F:=F) (vs:=vs) (g:=g) (W0:=W0) b 3 (k+1) e W');have e0:fe1 e 0=e:=Jc2 e;clear h ht;have key:∀w:Bs,((str t).toList==w)=decide (t=w):=fun w=>by
  have tl:(str t).toList=t:=by rw[Lib.toList_data]
  rw[tl];by_cases q:t=w <;> simp[q]
 have go:∀(p1 p2 p3 p4:Bool) (z:Int×Int),decide (t=Jrc)=p1->decide (t=Ji9)=p2->decide (t=Jfz)=p3->decide (t=Jrb)=p4->prm t=z->(p1 || p2)=decide (z.1=1\/z.1=3)->(p1 || p3)=decide (2<=z.1)->(if(p1 || p2 || p3 || p4)=true then e else fe1 e 3)=fe1 e z.2 ->
   Calls prog 184 #[.pointer (some ⟨F,0,none⟩)] W fun r W'=>r=.returned (.tuple #[.bool (decide (z.1=1\/z.1=3)),.bool (decide (2<=z.1))])/\Nx F vs g W0 (k+1) (fe1 e z.2) W'/\Jg0 F W W':=by
  intro p1 p2 p3 p4 z h1 h2 h3 h4 _ g1 g2 g3;have c1:=key Jrc;have c2:=key Ji9;have c3:=key Jfz;have c4:=key Jrb;rw[h1] at c1;rw[h2] at c2;rw[h3] at c3;rw[h4] at c4;rw[<-g1,<-g2];have G3:=Pe g3;clear key h1 h2 h3 h4 g1 g2 g3;have c1:((str t).toList==[98,111,116,104])=p1:=c1;have c2:((str t).toList==[98,111,97,114,100])=p2:=c2;have c3:((str t).toList==[97,108,105,103,104,116])=p3:=c3;have c4:((str t).toList==[110,111,110,101])=p4:=c4;generalize str t=s at C1 c1 c2 c3 c4;clear e0;have D:=Pe (C3.out (p1 || p2 || p3 || p4));clear C3;cases p1 <;> cases p2 <;> cases p3 <;> cases p4
  all_goals
   go_enter func184,ntmps184;go_wp2_with fail;refine C1.out.mono ?_;rintro r w1 ⟨rfl,n1,s1⟩;have D3:=Pe (D.out w1 n1);have S1:=Pe s1;clear n1 s1 C1 D;go_wp2_with fail;refine D3.out.mono ?_;rintro r w3 ⟨rfl,n3,s3⟩;have N3:=Pe n3;have S3:=Pe (S1.out.trans s3);clear n3 s3 D3;go_wp2_with fail;go_ret2;exact⟨rfl,by rw[<-G3.out];exact N3.out,S3.out⟩
 have hz:∀(i:Nat) (w:Bs),[Jrb,Ji9,Jfz,Jrc][i]?=some w->t=w->prm t=((i:Int),0):=fun i w hi ht=>by subst ht;exact Qds (l:=[Jrb,Ji9,Jfz,Jrc]) Kd hi
 by_cases q1:t=Jrc
 ·exact go true false false false (3,0) (by rw[q1];rfl) (by rw[q1];rfl) (by rw[q1];rfl) (by rw[q1];rfl) (hz 3 _ rfl q1) rfl rfl (by rw[e0];rfl) |> fun h=>by rw[hz 3 _ rfl q1];exact h
 by_cases q2:t=Ji9
 ·exact go false true false false (1,0) (by rw[q2];rfl) (by rw[q2];rfl) (by rw[q2];rfl) (by rw[q2];rfl) (hz 1 _ rfl q2) rfl rfl (by rw[e0];rfl) |> fun h=>by rw[hz 1 _ rfl q2];exact h
 by_cases q3:t=Jfz
 ·exact go false false true false (2,0) (by rw[q3];rfl) (by rw[q3];rfl) (by rw[q3];rfl) (by rw[q3];rfl) (hz 2 _ rfl q3) rfl rfl (by rw[e0];rfl) |> fun h=>by rw[hz 2 _ rfl q3];exact h
 by_cases q4:t=Jrb
 ·exact go false false false true (0,0) (by rw[q4];rfl) (by rw[q4];rfl) (by rw[q4];rfl) (by rw[q4];rfl) (hz 0 _ rfl q4) rfl rfl (by rw[e0];rfl) |> fun h=>by rw[hz 0 _ rfl q4];exact h
 have hm:prm t=(0,3):=Jnd (fun j hj=>by
  match j,hj with
  | 0,_=>simpa using fun q=>q4 q.symm
  | 1,_=>simpa using fun q=>q2 q.symm
  | 2,_=>simpa using fun q=>q3 q.symm
  | 3,_=>simpa using fun q=>q1 q.symm
  | j+4,hj=>simp at hj;omega)
 rw[hm];exact go false false false false (0,3) (Pj q1) (Pj q2) (Pj q3) (Pj q4) hm rfl rfl rfl
end
structure Fo (F_:Fm) (w0:World):Prop where
 num:∀(a:Bs),a.length<=65536->∀w:World,Po w0 w->Pc 250 #[.string (str a)] w (.tuple #[.int .i64 (F_.num a).1,.int .i64 (F_.num a).2])
 prc:∀(a:Bs),a.length<=65536->∀w:World,Po w0 w->Pc 256 #[.string (str a)] w (.tuple #[.int .i64 (F_.prc a).1,.int .i64 (F_.prc a).2])
 tim:∀(a:Bs),a.length<=65536->∀w:World,Po w0 w->Pc 254 #[.string (str a)] w (.tuple #[.int .i64 (F_.tim a).1,.int .i64 (F_.tim a).2])
 dur:∀(a:Bs),a.length<=65536->∀w:World,Po w0 w->Pc 255 #[.string (str a)] w (.tuple #[.int .i64 (F_.dur a).1,.int .i64 (F_.dur a).2])
 day:∀(a:Bs),a.length<=65536->∀w:World,Po w0 w->Pc 253 #[.string (str a)] w (.tuple #[.int .i64 (F_.day a).1,.int .i64 (F_.day a).2])
 mds:∀(a:Bs),a.length<=65536->∀w:World,Po w0 w->Pc 257 #[.string (str a)] w (.tuple #[.int .i64 (F_.mds a).1,.int .i64 (F_.mds a).2])
 mode:∀(a:Bs),a.length<=65536->∀w:World,Po w0 w->Pc 252 #[.string (str a)] w (.tuple #[.int .i64 (fnd 3 nmL a).1,.bool (decide ((fnd 3 nmL a).2=0))])
structure Rec (w0:World) (F:Nat) (vs:List Value) (ts:List Tng) (g:List Bs) (W:World):Prop where
 st:Gst w0 F 80 vs ts W
 prd:∃v,Prd F W.heap.size vs v g 0 W
 len:g.length<=1000000
 fld:∀k,(g.getD k []).length<=65536
structure Tbl (w0:World) (vs:List Value) (ts:List Tng) (i:Nat) (T:TypeId) (k:Nat) (v:Value) (n:Nat) (xs:List Value):Prop where
 cell:vs[2+i]?=some v
 row:ts[i]?=some (tRow w0.heap.size ⟨T,k,v,n,xs⟩)
 few:n<=1000000
def tIdx(B:Nat)(ids:List Bs):Tng:=tBlk B fun W=>MapF W B ids
structure Ix (vs:List Value) (ts:List Tng) (j B:Nat) (ids:List Bs):Prop where
 cell:vs[17+j]?=some (.map (some B))
 map:ts[11+j]?=some (tIdx B ids)
theorem tIdx.at{base B:Nat}{ids:List Bs}{W:World}(h:MapF W B ids)(h0:base<=B):(tIdx B ids).At base W:=tBlk.at h h0 h.lt fun _ _ _ h1 hg hn=>h1.kept hg hn
section
variable {w0 W X:World} {F:Nat} {vs:List Value} {ts:List Tng} {g:List Bs} {k:Nat} {e:Int}
theorem Rec.low(h:Rec w0 F vs ts g W)(q:W.grownBy X (some F)):Po w0 X:=Jdc h.st.base q (fun k e=>by cases e;exact h.st.low)
theorem Rec.up(h:Rec w0 F vs ts g W)(n:Nx F vs g W k e X):∃v,Gst w0 F 80 (set2 vs v e) ts X:=by
 obtain⟨n1,-,v,n3⟩:=n;exact⟨v,h.st.up n1 n3.box⟩
theorem Ix.off{j B:Nat}{ids:List Bs}(h:Ix vs ts j B ids)(R:Gst w0 F 80 vs ts W):MapF W B ids/\B≠F:=⟨(R.blk h.map).1,(R.blk h.map).2.2.2⟩
end
theorem Jg1(B:Nat)(ids:List Bs)(x:Bs)(s:ByteArray)(hs:str x=s)(hx:x.length<=65536)(hn:ids.length<=1000000)(n:Nat)(he:n=ids.length)(w:World)(h:MapF w B ids):
  Calls prog 177 #[.map (some B),.string s,.int .i64 (n:Int)] w fun r w'=>∃u,r=.returned u/\MapF w' B (ids++[x])/\w.grownBy w' (some B):=by
 subst he;have m:=h.look s x hs Ka;by_cases hm:x∈ids
 ·rw[if_pos hm,Pk hm] at m
  have A:=Pe (h.again hm);generalize ids.idxOf x=i at m;clear h hm hs;go_enter func177,ntmps177;go_wp2_with fail;go_end0;exact⟨_,rfl,A.out,Jbu Pg _⟩
 ·rw[if_neg hm,Pj hm] at m
  obtain⟨w',m2,a1,a2⟩:=h.put s x hs Ka hm Ka;have A:=Pe a1;have A2:=Pe a2;clear h hm hs a1 a2;go_enter func177,ntmps177;go_wp2_with fail;go_end0;exact⟨_,rfl,A.out,A2.out⟩
def wkB(t:Bs)(k i:Nat):Bool:=decide (i<k)&&decide (t[i]?=some 49)
def wkC(t:Bs)(k:Nat):Array Value:=#[.bool (wkB t k 0),.bool (wkB t k 1),.bool (wkB t k 2),.bool (wkB t k 3),.bool (wkB t k 4),.bool (wkB t k 5),.bool (wkB t k 6)]
theorem J6c{t:Bs}{k i:Nat}(h:i≠k):wkB t (k+1) i=wkB t k i:=by
 unfold wkB;have:decide (i<k+1)=decide (i<k):=by simp only[decide_eq_decide];omega
 rw[this]
theorem Qb2(t:Bs)(k:Nat)(hk:k<7):(wkC t k).setIfInBounds k (.bool (decide (t[k]?=some 49)))=wkC t (k+1):=by
 have e:wkB t (k+1) k=decide (t[k]?=some 49):=by unfold wkB;simp
 rw[<-e];unfold wkC;match k,hk with
 | 0,_ | 1,_ | 2,_ | 3,_ | 4,_ | 5,_ | 6,_=>simp[J6c]
theorem Qef(t:Bs)(k:Nat)(hk:k<7):(wkC t k)[k]?=some (.bool false):=by
 have e:wkB t k k=false:=by unfold wkB;simp
 rw[<-e];unfold wkC;match k,hk with
 | 0,_ | 1,_ | 2,_ | 3,_ | 4,_ | 5,_ | 6,_=>rfl
theorem J2n(t:Bs)(k:Nat):(wkC t k).all (·.oneCell')=true:=by simp[wkC,Value.oneCell']
theorem J6d(t:Bs):wkC t 0=#[.bool false,.bool false,.bool false,.bool false,.bool false,.bool false,.bool false]:=by simp[wkC,wkB]
theorem J6e(t:Bs)(k:Nat):(wkC t k).size=7:=rfl
theorem Jen(t:Bs)(k:Nat):(prog.info? 59).map (·.size)=some (wkC t k).size:=by rw[J6e];kernel_rfl
theorem wk_ix(B k:Nat)(hk:k<7)(W:World):(Instr.indexAt 59 (.pointer (some ⟨B,0,none⟩)) (.int .i64 (k:Int))).run prog W=.ok (.pointer (some ⟨B,k,none⟩)) W:=by
 have he:prog.elem 59=4:=Kl;have hl:prog.arrayLen 59=7:=Kl;rw[run_indexAt_array W 59 _ _ _ (by rw[he,hl];exact underlying59),hl,he,if_pos Ka];simp[sizeOf4,Addr.add];exact fun h=>h.symm
def okW(b:UInt8):Bool:=b==48 || b==49
def wkE(e:Int)(t:Bs)(k:Nat):Int:=fe1 e (if(t.take k).all okW then 0 else 3)
theorem Qeg{e:Int}{t:Bs}{k:Nat}{c:UInt8}(hc:t[k]?=some c)(h:okW c=true):wkE e t (k+1)=wkE e t k:=by
 unfold wkE;rw[Jbx t k c hc,List.all_append];simp[h]
theorem Qeh{e:Int}{t:Bs}{k:Nat}{c:UInt8}(hc:t[k]?=some c)(h:okW c=false):wkE e t (k+1)=fe1 (wkE e t k) 3:=by
 unfold wkE;rw[Jbx t k c hc,List.all_append];have:(((t.take k).all okW)&&([c].all okW))=false:=X7;rw[this];by_cases q:(t.take k).all okW=true
 ·rw[if_pos q,Jc2];rfl
 ·rw[if_neg q]
  by_cases he:e=0
  ·subst he;rfl
  ·rw[Jjv he];simp[Jjv he]
section
variable {w0 W X:World} {F:Nat} {vs:List Value} {ts:List Tng} {t:Tng}
variable {j B:Nat} {ids:List Bs}
theorem Tbl.slice{i:Nat}{T:TypeId}{k n:Nat}{v:Value}{xs:List Value}(h:Tbl w0 vs ts i T k v n xs)(R:Gst w0 F 80 vs ts W):∃A c,v=.slice A n c:=by
 have hr:=R.row h.row;rcases hr.2 with⟨h0,h1⟩ | ⟨g,c,cur,h0,-⟩
 ·exact⟨none,0,by rw[show v=_ from h0,show n=0 from h1]⟩
 ·exact⟨_,c,h0⟩
theorem Ix.lt(h:Ix vs ts j B ids):11+j<ts.length:=(Pm h.map).1
theorem Ix.app_at(h:Ix vs ts j B ids):(ts++[t])[11+j]?=some (tIdx B ids):=Jba h.map
theorem Ix.app{us:List Value}(h:Ix vs ts j B ids)(R:Gst w0 F 80 us (ts++[t]) X):MapF X B ids:=(R.blk (h.app_at (t:=t))).1
theorem Ix.base{us:List Value}(h:Ix vs ts j B ids)(R:Gst w0 F 80 us (ts++[t]) X):w0.heap.size<=B:=(R.blk (h.app_at (t:=t))).2.1
end
theorem Rdr.ret{F:Nat}{vs:List Value}{g:List Bs}{W0 X:World}{f:FuncId}{x:Array Value}{k k':Nat}{e e':Int}{u:Value}(h:Rdr F vs g W0 f x k e u k' e')(hX:Nx F vs g W0 k e X):Calls prog f x X fun r w'=>∃q,r=.returned q/\(q=u/\Nx F vs g W0 k' e' w') :=
 (h X hX).mono fun _ _ hh=>⟨u,hh.1,rfl,hh.2.1⟩
theorem Runs.rd{ops:Array Oper}{S:World->Prop}{dj:Nat}{F:Nat}{vs:List Value}{g:List Bs}{W0:World}{o:Obj}{k k':Nat}{e e':Int}{a a':Act}{i:Nat}{r:List Nat}{oi:Oper}{G':World->Prop}(d:Nat){f:FuncId}{x:Array Value}(u:Value)(hi:ops[i]?=some oi)(hd:oi.dst=some d)(hne:dj≠d)(w:∀b:Act,Region.wanted oi (yielded ops b.tmps)=true)
  (r0:∀W,(execOp a.eval oi).run prog W=.ok (.enter f x) W) (r1:∀q W,(execOp (a.put (some dj) q).eval oi).run prog W=.ok (.enter f x) W) (R:Rdr F vs g W0 f x k e u k' e') (s:∀W,Nx F vs g W0 k e W->S W)
  (h:Runs prog ops S dj (fun X=>.pointer (some ⟨X.heap.size,0,none⟩)) (fun X=>X.alloc o) (Lq W0 o) (Nx F vs g W0 k' e') (a.put (some d) u) r a' G'):Runs prog ops S dj (fun X=>.pointer (some ⟨X.heap.size,0,none⟩)) (fun X=>X.alloc o) (Lq W0 o) (Nx F vs g W0 k e) a (i::r) a' G' :=
 .cons d u hi hd hne w r0 r1 (R.run o) (Nx.new o) s h
structure WkN (F:Nat) (vs:List Value) (g:List Bs) (W0:World) (k:Nat) (W:World) (t:Bs) (x:Int) (cs:Array Value) (wr:World):Prop where
 nx:Nx F vs g W0 k x wr
 res:wr.heap[W.heap.size]?=some (.cells (wkC t 0) 59 (0,0))
 arr:wr.heap[W.heap.size+1]?=some (.cells cs 59 (0,0))
 st:Jg0 F W wr
section
variable {F k:Nat} {vs:List Value} {g:List Bs} {W0 W wr w':World} {t:Bs} {x y e:Int} {cs:Array Value}
theorem WkN.up(h:WkN F vs g W0 k W t x cs wr)(hF:F<W.heap.size)(n:Nx F vs g W0 k y w')(s:Jg0 F wr w'):WkN F vs g W0 k W t y cs w' :=
 ⟨n,s _ _ Ka h.res,s _ _ Ka h.arr,h.st.trans s⟩
theorem WkN.put(h:WkN F vs g W0 k W t x cs wr)(hF:F<W.heap.size)(h0:W0.heap.size<=W.heap.size)(j:Nat)(u:Value):WkN F vs g W0 k W t x (cs.setIfInBounds j u) (wr.setCell ⟨W.heap.size+1,j,none⟩ u):=by
 have gr:=Jbs wr (W.heap.size+1) j u;have oth:∀i,i≠W.heap.size+1->(wr.setCell ⟨W.heap.size+1,j,none⟩ u).heap[i]?=wr.heap[i]?:=fun i hi=>RowKit.Below.heap_setCell _ _ _ i hi
 refine⟨h.nx.off gr Ka Ka,(oth _ Ka).trans h.res,?_,fun b o hb ho=>(oth b ?_).trans (h.st b o hb ho)⟩
 ·rw[heap_setCell_same _ _ _ _ _ _ h.arr]
 ·have:=(Pn ho).1
  omega
theorem WkN.done(h:WkN F vs g W0 k W t x cs wr)(hF:F<W.heap.size)(h0:W0.heap.size<=W.heap.size)(ds:Array Value):Nx F vs g W0 k x (wr.setRow W.heap.size ds)/\Jg0 F W (wr.setRow W.heap.size ds) :=
 ⟨h.nx.off (Jek wr W.heap.size ds) h0 Ka,fun b o hb ho=>(setRow_other wr _ b ds (by have:=(Pn ho).1;omega)).trans (h.st b o hb ho)⟩
theorem WkN.start(h:Nx F vs g W0 k e W):WkN F vs g W0 k W t e (wkC t 0) ((W.alloc (.cells (wkC t 0) 59 (0,0))).alloc (.cells (wkC t 0) 59 (0,0))) :=
 have b:Po W ((W.alloc (.cells (wkC t 0) 59 (0,0))).alloc (.cells (wkC t 0) 59 (0,0))):=((Below.refl _ _).alloc Ph _).alloc Ke _
 ⟨h.on b,heap_alloc2_old W _ _,heap_alloc2_new W _ _,(h.blw b).2⟩
theorem J6f(k:Nat)(e:Int):Rdr F vs g W0 179 #[.pointer (some ⟨F,0,none⟩)] k e (.agg #[.bool ((wk (g.getD k [])).1 0),.bool ((wk (g.getD k [])).1 1),.bool ((wk (g.getD k [])).1 2),.bool ((wk (g.getD k [])).1 3),.bool ((wk (g.getD k [])).1 4),.bool ((wk (g.getD k [])).1 5),.bool ((wk (g.getD k [])).1 6)]) (k+1) (fe1 e (wk (g.getD k [])).2):=by
 intro W h;have hF:=h.lt;have h0:W0.heap.size<=W.heap.size:=h.1.size;obtain⟨t,ht⟩:=Pi (g.getD k []);have S0:=WkN.start (t:=t) h;obtain⟨W2,hW2⟩:=Pi ((W.alloc (.cells (wkC t 0) 59 (0,0))).alloc (.cells (wkC t 0) 59 (0,0)));rw[hW2] at S0;rw[J6d] at hW2;have C1:=Pe (Jbt (F:=F) (vs:=vs) (g:=g) (W0:=W0) k e W2 S0.nx);rw[ht] at C1 |-;obtain⟨s,hs⟩:=Pi (str t);rw[hs] at C1;have UP:=Pe (fun(w':World) (n:Nx F vs g W0 (k+1) e w') (q:Jg0 F W2 w')=>(⟨n,q _ _ Ka S0.res,q _ _ Ka S0.arr,S0.st.trans q⟩:WkN F vs g W0 (k+1) W t e (wkC t 0) w'));have hz:s.size=t.length:=by rw[<-hs];show(List.toArray t).size=_;simp
 have hd:s.data.toList=t:=Vv;have C3:=Pe (fun b y W'=>Jdu (F:=F) (vs:=vs) (g:=g) (W0:=W0) b 3 (k+1) y W');clear S0 h ht;by_cases h7:t.length=7
 ·have R:Hid ((.agg (wkC t 7):Value)=.agg #[.bool ((wk t).1 0),.bool ((wk t).1 1),.bool ((wk t).1 2),.bool ((wk t).1 3),.bool ((wk t).1 4),.bool ((wk t).1 5),.bool ((wk t).1 6)]):=Pe (by unfold wk;rw[if_neg (fun q=>q h7)];simp[wkC,wkB])
  have E:Hid (wkE e t 7=fe1 e (wk t).2):=Pe (by unfold wk;rw[if_neg (fun q=>q h7)];unfold wkE;rw[List.take_of_length_le Ka];rfl);have g7:((s.size:Int) != 7)=false:=by rw[hz,h7];rfl
  have G8:=Pe (show((t.length:Int) != 7)=false by rw[h7];rfl);have HD:=Pe hd;have HL:Hid (t.length=7):=Pe h7;clear hs hd h7;go_enter func179,ntmps179;go_wp2_with fail;refine C1.out.mono ?_;rintro r w1 ⟨rfl,n1,s1⟩;have S1:=Pe (UP.out w1 n1 s1);clear n1 s1 C1 UP;go_wp2_with fail;try rw[G8.out]
  clear G8;go_loopw [14] (fun i wr=>∃j:Nat,i=.int .i64 j/\j<=7/\Hid (WkN F vs g W0 (k+1) W t (wkE e t j) (wkC t j) wr)) (fun i _=>7 - (intOf i).toNat);case atStart=>exact⟨0,rfl,Nat.zero_le _,Pe (by have:=S1.out;rwa [show wkE e t 0=e from Jc2 e])⟩
  case round =>
   obtain⟨j,rfl,hk,HK⟩:=hrel;by_cases hlt:j<7
   ·obtain⟨c,hc⟩:∃c,t[j]?=some c:=⟨t[j]'(by rw[HL.out];exact hlt),List.getElem?_eq_getElem _⟩
    have gk:(j:Int)<7:=Ka;have ks:=fun X=>Jby s j c (by rw[HD.out];exact hc) j rfl X
    have ix:=fun X=>wk_ix (W.heap.size+1) j hlt X
    have CA:Hid ((wkC t j)[j]?=some (.bool false)):=Pe (Qef t j hlt);have fin:∀(b:Bool),(okW c=b)->Hid ((if b=true then wkE e t j else fe1 (wkE e t j) 3)=wkE e t (j+1)):=fun b hb=>Pe (by
     cases b with
     | true=>exact(Qeg hc hb).symm
     | false=>exact(Qeh hc hb).symm)
    have CN:∀(b:Bool),decide (c=49)=b->Hid ((wkC t j).setIfInBounds j (.bool b)=wkC t (j+1)):=fun b hb=>Pe (by rw[<-Qb2 t j hlt,hc,<-hb];simp)
    by_cases h49:c=49
    ·have b3:((c.toNat:Int)==49)=true:=by rw[h49];rfl
     have EN:=fin true (by rw[h49];rfl);have CN:=CN true (Pk h49);have D:=Pe (C3.out true (wkE e t j) wr HK.out.nx);clear hc h49 hlt fin;go_wp2_with fail;refine D.out.mono ?_;rintro r w3 ⟨rfl,n3,s3⟩;rw[EN.out] at n3;have q3:=HK.out.up hF n3 s3;have m0:w3.cell? ⟨W.heap.size+1,j,none⟩=some (.bool false):=Gx;have f0:=frozen_of_row w3 (W.heap.size+1) j _ _ q3.arr;have K2:Hid (WkN F vs g W0 (k+1) W t (wkE e t (j+1)) (wkC t (j+1)) (w3.setCell ⟨W.heap.size+1,j,none⟩ (.bool true))):=Pe (by
      have q:=q3.put hF h0 j (.bool true);rw[CN.out] at q;exact q)
     clear HK D n3 s3 q3 EN CN CA;go_wp2_with fail;go_roundw;case rel=>exact⟨j+1,Kj,Ka,K2⟩
     case measure=>exact Q7
    ·have b3:((c.toNat:Int)==49)=false:=Jaa (fun q=>h49 (UInt8.toNat_inj.1 (by have:(49:UInt8).toNat=49:=rfl;omega)))
     obtain⟨p,hp⟩:=Pi (decide (c=48));have b4:((c.toNat:Int)==48)=p:=by
      rw[<-hp];by_cases q:c=48
      ·rw[Pk q,q];rfl
      ·rw[Pj q];exact Jaa (fun r=>q (UInt8.toNat_inj.1 (by have:(48:UInt8).toNat=48:=rfl;omega)))
     have EN:=fin p (by rw[<-hp];unfold okW;by_cases q:c=48 <;> simp[q,h49]);have CN:=CN false (Pj h49);have D:=Pe (C3.out p (wkE e t j) wr HK.out.nx);clear hc h49 hlt fin hp;go_wp2_with fail;refine D.out.mono ?_;rintro r w3 ⟨rfl,n3,s3⟩;rw[EN.out] at n3;have q3:=HK.out.up hF n3 s3;have m0:w3.cell? ⟨W.heap.size+1,j,none⟩=some (.bool false):=Gx;have f0:=frozen_of_row w3 (W.heap.size+1) j _ _ q3.arr;have K2:Hid (WkN F vs g W0 (k+1) W t (wkE e t (j+1)) (wkC t (j+1)) (w3.setCell ⟨W.heap.size+1,j,none⟩ (.bool false))):=Pe (by
      have q:=q3.put hF h0 j (.bool false);rw[CN.out] at q;exact q)
     clear HK D n3 s3 q3 EN CN CA;go_wp2_with fail;go_roundw;case rel=>exact⟨j+1,Kj,Ka,K2⟩
     case measure=>exact Q7
   ·obtain rfl:j=7:=Ka
    have d:decide (((7:Nat):Int)<7)=false:=rfl;have r0:=HK.out.res;have r1:=HK.out.arr;have D:=Pe (HK.out.done hF h0 (wkC t 7));clear hlt hk HK HD HL S1;go_wp2_with (first
     | (refine wpList_load_row rfl 59 (.tmp 3) rfl (W.heap.size+1) rfl 59 (wkC t 7) (0,0) _ r1 underlying59 rfl (Jen _ _) ?_)
     | (refine wpList_store_row rfl 59 (.tmp 2) (.tmp 36) rfl W.heap.size (wkC t 7) rfl rfl 59 (wkC t 0) r0 (Jen _ _) rfl (J2n _ _) ?_))
    refine bodyPost_ret (results_cell_row rfl _ _ W.heap.size 59 (wkC t 7) (0,0) _ rfl (setRow_heap wr W.heap.size (wkC t 0) (wkC t 7) _ _ r0) underlying59 rfl (Jen _ _)) rfl ?_;exact⟨Va,by rw[<-E.out];exact D.out.1,D.out.2⟩
 ·have R:Hid ((.agg (wkC t 0):Value)=.agg #[.bool ((wk t).1 0),.bool ((wk t).1 1),.bool ((wk t).1 2),.bool ((wk t).1 3),.bool ((wk t).1 4),.bool ((wk t).1 5),.bool ((wk t).1 6)]):=Pe (by unfold wk;rw[if_pos h7];simp[wkC,wkB])
  have E:Hid (fe1 e 3=fe1 e (wk t).2):=Pe (by unfold wk;rw[if_pos h7]);have g7:((s.size:Int) != 7)=true:=by rw[hz];exact Jaf Ka
  clear hs hd h7 hz;go_enter func179,ntmps179;go_wp2_with fail;refine C1.out.mono ?_;rintro r w1 ⟨rfl,n1,s1⟩;have S1:=Pe (UP.out w1 n1 s1);have D:=Pe (C3.out false e w1 n1);clear n1 s1 C1 UP;go_wp2_with fail;refine D.out.mono ?_;rintro r w3 ⟨rfl,n3,s3⟩;have q3:=S1.out.up hF n3 s3;have r0:=q3.res;have r1:=q3.arr;have D:=Pe (q3.done hF h0 (wkC t 0));clear n3 s3 q3 S1;go_wp2_with (first
   | (refine wpList_load_row rfl 59 (.tmp 3) rfl (W.heap.size+1) rfl 59 (wkC t 0) (0,0) _ r1 underlying59 rfl (Jen _ _) ?_)
   | (refine wpList_store_row rfl 59 (.tmp 2) (.tmp 13) rfl W.heap.size (wkC t 0) rfl rfl 59 (wkC t 0) r0 (Jen _ _) rfl (J2n _ _) ?_))
  refine bodyPost_ret (results_cell_row rfl _ _ W.heap.size 59 (wkC t 0) (0,0) _ rfl (setRow_heap w3 W.heap.size (wkC t 0) (wkC t 0) _ _ r0) underlying59 rfl (Jen _ _)) rfl ?_;exact⟨Va,by rw[<-E.out];exact D.out.1,D.out.2⟩
end
end
end Go.Proofs.YtpifdbphmnifdaaGreatDoor
