import Derived.Shelf.RegionOpen
import Derived.Test.YtnjmhjdhfaboaaaGreatDoorL
import Derived.OwnWalkIn
import Derived.LoopNIn
import Derived.LoopIn
import Derived.RangeFuncNested
import Derived.RangeFuncBound
set_option maxRecDepth 100000
set_option maxHeartbeats 4000000
open Nat (le_refl lt_or_ge zero_le)
open List
open Go.Proofs.Tryz
namespace Go.Proofs.YtnjmhjdhfaboaaaGreatDoor
open Go.RowKit
theorem ą{p:Prop}(h:p):Go.RowKit.Hid p:=h
variable {P:Program}
def Mq(P:Program)(gf:Nat)(lb:Array Value)(encs:Nat->Array Value)(m n:Nat)(w:World):Prop:=
 ∀(l:Nat) (J:Nat->World->Prop) (Jx:World->Prop) (W:World),Below w.heap.size w W ->
  (∀k A q,J k A->J k (World.drewN A q)) ->
  (∀k A,k<m->J k A->YieldAt Fence.wide 0 P l (encs k) A λe A'=>e = .returned (.bool true)/\J (k+1) A') ->
  (∀A,m<n->J m A->YieldAt Fence.wide 0 P l (encs m) A λe A'=>e = .returned (.bool false)/\Jx A') ->
  J 0 W ->
  CallsIn Fence.wide 0 P gf (#[.func (.yield l) #[] #[]]++lb) W λe W'=>(∃v,e = .returned v)/\((m=n/\J n W')\/(m<n/\Jx W'))
def ag1(R:World->Prop):Exit->Act->World->Prop
 | .normal,_,W=>R W
 | _,_,_=>False
def afJ(R:World->Prop):Exit->Act->World->Prop
 | .ret,_,W=>R W
 | _,_,_=>False
theorem TU{g:Operand}{ps:Array Tmp}{assign body:Code}{Q:Exit->Act->World->Prop}{a:Act}{w:World}{gf:Nat}{lb:Array Value}
  (hg:a.eval g = .func (.func gf) #[] lb) (eg:∀args w,(callFunc gf args).run P w = .ok (.enter gf args) w)
  (m n:Nat) (z:Nat->Array Value) (υ:∀k,(z k).size=ps.size) (Ŷ:Mq P gf lb z m n w)
  (I:Nat->World->Prop) (Ix:World->Prop)
  (Bo:∀k A l o,w.heap.size<=l->l<=w.heap.size+1->I k A->I k (A.putObj l o)) (hId:∀k A q,I k A->I k (World.drewN A q))
  (hXp:∀A l o,w.heap.size<=l->l<=w.heap.size+1->Ix A->Ix (A.putObj l o))
  (h0:∀o1 o2,I 0 ((w.alloc o1).alloc o2)) (J:Nat->Act)
  (œ:∀(l k:Nat) (W:World) (K:Act->World->Prop),K (J k) W ->
   assign.wpIn (Fence.wide.inRound l) 0 P (Exit.then K (λ_ _ _=>False)) { tmps:=(ps.zip (z k)).foldl (λt (p,v)=>t.setIfInBounds p v) a.tmps,defers:=[] } W)
  (Z:∀(l k:Nat) (W:World),k<m->I k W->w.heap.size+1<W.heap.size ->
   body.wpIn (Fence.wide.inRound l) 0 P (ag1 λY=>I (k+1) Y/\Y.heap[w.heap.size]? = W.heap[w.heap.size]? /\ Y.heap[w.heap.size+1]? = W.heap[w.heap.size+1]?) (J k) W)
  (č:∀(l:Nat) (W:World),m<n->I m W->w.heap.size+1<W.heap.size ->
   body.wpIn (Fence.wide.inRound l) 0 P (afJ λY=>Ix Y/\Y.heap[w.heap.size]? = W.heap[w.heap.size]? /\ Y.heap[w.heap.size+1]? = W.heap[w.heap.size+1]?) (J m) W)
  (hdone:∀(W:World),m=n->I n W->W.heap[w.heap.size]? = some (.deferred (some []))->Q .normal { a with defers:={ target:=.collected w.heap.size,args:=#[] }::a.defers } W)
  (hstop:∀(W:World),m<n->Ix W->W.heap[w.heap.size]? = some (.deferred (some []))->Code.ret.wp P Q { a with defers:={ target:=.collected w.heap.size,args:=#[] }::a.defers } W) :
  (Code.rangeFunc g ps assign body).wp P Q a w:=by
 refine (wpIn_wide (n:=0)).1 (wpIn_rangeFunc ?_);intro fn ŋ;obtain⟨j,G⟩:∃j:LoopState->Option Code->Loop,j=λst pe=>{ state:=st,pending:=pe,fn,tmps:=a.tmps,params:=ps,assign,body,defers:=w.heap.size }:=⟨_,rfl⟩
 obtain⟨V,ä⟩:=bF ((w.alloc (.deferred (some []))).alloc (.loop (j .ready none)));have hL1:V.heap[w.heap.size+1]? = some (.loop (j .ready none)):=by
  rw[ä];have:=World.alloc_heap_new (w.alloc (.deferred (some []))) (.loop (j .ready none));rwa [World.size_alloc] at this
 have ĕ:V.heap[w.heap.size]? = some (.deferred (some [])):=by
  rw[ä];exact (Below.heap_alloc _ _ _ rQ).trans (World.alloc_heap_new w _)
 have ώ:Below w.heap.size w V:=by rw[ä];exact ((Below.refl _ w).alloc (le_refl _) _).alloc rQ _
 have hi1:I 0 V:=by rw[ä];exact h0 _ _
 refine⟨w.heap.size+1,[{ target:=.collected w.heap.size,args:=#[] }],V,{ target:=.fn (.func gf) lb,args:=#[.func (.yield (w.heap.size+1)) #[] #[]] },V,gf,
  #[.func (.yield (w.heap.size+1)) #[] #[]]++lb,V,?_,?_,?_,?_,λh=>by simp[Fence.wide] at h,?_⟩
 ·rw[ä,G];exact run_enterLoop_outer _ _ _ _ _
 ·simp only[resolve,hg];simp[go_sem]
 ·intro f' _;trivial
 ·simp[invoke,go_sem,eg]
 ·refine CallsIn.mono (Ŷ (w.heap.size+1)
   (λk W=>I k W/\W.heap[w.heap.size+1]? = some (.loop (j .ready none))/\W.heap[w.heap.size]? = some (.deferred (some [])))
   (λW=>Ix W/\W.heap[w.heap.size+1]? = some (.loop (j .done (some .ret)))/\W.heap[w.heap.size]? = some (.deferred (some [])))
   V ώ ?_ ?_ ?_ ⟨hi1,hL1,ĕ⟩) ?_
  ·rintro k A q ⟨U,D,R⟩;exact⟨hId k A q U,D,R⟩
  ·rintro k A hk ⟨U,D,R⟩;have Ĭ:=(Array.getElem?_eq_some_iff.1 D).1;have hy:=run_yield (P:=P) (args:=z k) D (by rw[G];exact υ k);rw[G] at hy;refine⟨fn,_,assign,body,hy,roundIn_of_wpIn ŋ (œ _ k A _ ?_)⟩;refine⟨_,run_beginRound D (by rw[G]),?_⟩;obtain⟨H,O⟩:=bF (A.putObj (w.heap.size+1) (.loop { j .ready none with state:=.busy }));rw[<-O];have hsb:H.heap.size=A.heap.size:=by rw[O];simp
   have Ì:H.heap[w.heap.size+1]? = some (.loop { j .ready none with state:=.busy }):=by rw[O];exact World.putObj_heap_same fM
   have hdb:H.heap[w.heap.size]? = some (.deferred (some [])):=by rw[O,World.putObj_heap_other fM];exact R
   have Ζ:I k H:=by rw[O];exact Bo k A _ _ fM fM U
   refine wpIn_mono (Z _ k H hk Ζ fM) ?_;rintro e a3 W3 F;cases e with
   | normal=>
    obtain⟨hi3,hd3,hl3⟩:=F;have Qq:=hl3.trans Ì;have am2:=(Array.getElem?_eq_some_iff.1 Qq).1;refine⟨_,_,run_endRound (P:=P) none Qq,rfl,Bo _ _ _ _ fM fM hi3,?_,?_⟩
    ·rw[World.putObj_heap_same fM,G];rfl
    ·rw[World.putObj_heap_other fM];exact hd3.trans hdb
   | ret=>exact F.elim
   | exit id=>exact F.elim
   | goto t=>exact F.elim
   | panic ch=>exact F.elim
   | outgrown=>exact F.elim
  ·rintro A Û ⟨U,D,R⟩;have Ĭ:=(Array.getElem?_eq_some_iff.1 D).1;have hy:=run_yield (P:=P) (args:=z m) D (by rw[G];exact υ m);rw[G] at hy;refine⟨fn,_,assign,body,hy,roundIn_of_wpIn ŋ (œ _ m A _ ?_)⟩;refine⟨_,run_beginRound D (by rw[G]),?_⟩;obtain⟨H,O⟩:=bF (A.putObj (w.heap.size+1) (.loop { j .ready none with state:=.busy }));rw[<-O];have hsb:H.heap.size=A.heap.size:=by rw[O];simp
   have Ì:H.heap[w.heap.size+1]? = some (.loop { j .ready none with state:=.busy }):=by rw[O];exact World.putObj_heap_same fM
   have hdb:H.heap[w.heap.size]? = some (.deferred (some [])):=by rw[O,World.putObj_heap_other fM];exact R
   have Ζ:I m H:=by rw[O];exact Bo m A _ _ fM fM U
   refine wpIn_mono (č _ H Û Ζ fM) ?_;rintro e a3 W3 F;cases e with
   | ret=>
    obtain⟨hi3,hd3,hl3⟩:=F;have Qq:=hl3.trans Ì;have am2:=(Array.getElem?_eq_some_iff.1 Qq).1;refine⟨_,_,run_endRound (P:=P) (some .ret) Qq,rfl,hXp _ _ _ fM fM hi3,?_,?_⟩
    ·rw[World.putObj_heap_same fM,G];rfl
    ·rw[World.putObj_heap_other fM];exact hd3.trans hdb
   | normal=>exact F.elim
   | exit id=>exact F.elim
   | goto t=>exact F.elim
   | panic ch=>exact F.elim
   | outgrown=>exact F.elim
  ·rintro e W2 ⟨⟨v,rfl⟩,h⟩;rcases h with⟨Û,U,D,R⟩|⟨Û,U,D,R⟩
   ·refine⟨none,_,by have:=run_endLoop (P:=P) D (by rw[G];simp);rw[G] at this;exact this,hdone _ Û (Bo _ _ _ _ fM fM U) ((World.putObj_heap_other fM).trans R)⟩
   ·refine⟨some .ret,_,by have:=run_endLoop (P:=P) D (by rw[G];simp);rw[G] at this;exact this,?_⟩;exact wpIn_wide.2 (hstop _ Û (hXp _ _ _ fM fM U) ((World.putObj_heap_other fM).trans R))
open Go.Shelf aD
attribute [local go_sem] Oper.semAt_some
def WI:Value->Nat
 | .string s=>s.size
 | _=>0
def WJ:Value->Nat
 | .bool true=>1
 | _=>0
theorem WK(s:ByteArray)(w:World):
  Calls prog 128 #[.string s] w λe w'=>e = .returned (.func (.func 179) #[] #[.pointer (some ⟨w.heap.size,0,none⟩)])/\w'=w.alloc (.cells #[.string s] 9):=by
 go_enter func128,ntmps128;go_wp2;go_ret;exact⟨rfl,rfl⟩
theorem Pg(O:Nat)(s:ByteArray)(w:World)(hs:s.size<=1000000)(m n:Nat)(hm:m<=n)(Ù:1<=n)(Ś:∀i,i<n->oZ s.data.toList i=decide (i+1<n))
  (JE:w.cell? ⟨O,0,none⟩=some (.string s)) :
  Mq prog 179 #[.pointer (some ⟨O,0,none⟩)] (λk=>#[.string (txt (lY s.data.toList k))]) m n w:=by
 intro l J Jx W Ϗ hJd hJy hJx hJ0;have hBn:=World.block_lt_of_cell? w ⟨O,0,none⟩ JE;have aeh:=(Ϗ.cell (p:=⟨O,0,none⟩) hBn).trans JE;have Ϡ:∀k,(txt (gQ s.data.toList k)).size<=1000000:=λk=>by
  rw[dH];have H:=Ms s.data.toList k;have h2:s.data.toList.length=s.size:=Array.length_toList;omega
 have fQ:=ą Ϡ;have U:=ą hJd;have Y:=ą hJy;have V:=ą hJx;have R:=ą hJ0;have HM:=ą Ś;refine callsIn_of_wp func179 rfl trivial ?_ rfl;simp only[ntmps179,size_toArray,length_cons,length_nil,Nat.reduceAdd,Nat.reduceSub,Array.replicate_succ,Array.replicate_zero,push_toArray,append_toArray,nil_append,cons_append];gi_wp2;gi_loopw [3,4,5] (λr f _ wr=>∃k:Nat,k<=m/\r = .string (txt (gQ s.data.toList k))/\f = .bool (decide (k<n))/\J k wr) (λr f _ _=>WI r+WJ f);case atStart=>exact⟨0,zero_le _,rfl,qz,R.out⟩
 case round=>
  obtain⟨k,ú,rfl,rfl,hJ⟩:=hrel;have HJ:=ą hJ;by_cases D:k<n
  ·rw[show decide (k<n)=true from decide_eq_true D];have hcut:=λw0=>afK (txt (gQ s.data.toList k)) w0 (fQ.out k)
   have hp:txt (aJ 44 (txt (gQ s.data.toList k)).data.toList).1=txt (lY s.data.toList k):=rfl;have hr:txt (aJ 44 (txt (gQ s.data.toList k)).data.toList).2.1=txt (gQ s.data.toList (k+1)):=rfl;have hf:(aJ 44 (txt (gQ s.data.toList k)).data.toList).2.2=oZ s.data.toList k:=rfl;rw[hp,hr,hf,HM.out k D] at hcut;have Qu:=ą hcut;have F:(gQ s.data.toList (k+1)).length+(if k+1<n then 1 else 0)<(gQ s.data.toList k).length+1:=by
    have hc:=pX 44 (gQ s.data.toList k);have Q:=HM.out k D;by_cases o:k+1<n
    ·rw[decide_eq_true o] at Q;have:=hc.2.2 Q;rw[if_pos o];simp only[gQ];omega
    ·rw[decide_eq_false o] at Q;have hz:gQ s.data.toList (k+1) = []:=NC 44 _ Q;rw[if_neg o,hz];simp
   have akv:=ą F;clear hcut hp hr hf F;have İ:(txt (gQ s.data.toList k)).size=(gQ s.data.toList k).length:=dH _;generalize txt (gQ s.data.toList k)=r0 at *;have EH:=ą İ;gi_wp2_with fail;refine⟨trivial,rfl,?_⟩;refine CallsIn.mono (callsIn_wide.2 (Qu.out _)) ?_;rintro e w1 ⟨rfl,q,rfl⟩;have I:=U.out k wr q HJ.out;by_cases ϗ:k<m
   ·obtain⟨fn,K,j,G,hy,hR⟩:=Y.out k _ ϗ I;have Z:=ą hR;gi_wp2;refine⟨rfl,?_⟩;refine RoundIn.mono Z.out ?_;rintro e W3 ⟨rfl,A⟩;have z:=ą A;gi_wp2;go_roundw;case rel=>exact⟨k+1,fM,rfl,rfl,z.out⟩
    case measure=>
     have H:=akv.out;have h2:=EH.out;have h3:(txt (gQ s.data.toList (k+1))).size=(gQ s.data.toList (k+1)).length:=dH _;by_cases o:k+1<n
     ·rw[if_pos o] at H;simp[WI,WJ,o];omega
     ·rw[if_neg o] at H;simp[WI,WJ,o];omega
   ·have am3:k=m:=fM;subst am3;obtain⟨fn,K,j,G,hy,hR⟩:=V.out _ D I;have Z:=ą hR;gi_wp2;refine⟨rfl,?_⟩;refine RoundIn.mono Z.out ?_;rintro e W3 ⟨rfl,A⟩;have z:=ą A;gi_wp2;exact bodyPost_ret (v:=.tuple #[]) (results_none rfl _ _ _) rfl ⟨⟨_,rfl⟩,.inr ⟨D,z.out⟩⟩
  ·have H:k=n:=fM;have h2:m=n:=fM;rw[show decide (k<n)=false from decide_eq_false D];subst H;gi_wp2;go_end0;exact⟨⟨_,rfl⟩,.inl ⟨h2,HJ.out⟩⟩
attribute [local go_sem] Oper.semAt_some
structure JF(s0:Nat)(w:World)(l:List UInt8)(k:Nat)(W:World):Prop where
 aI:Below s0 w W
 res:W.heap[s0]? = some (.cells #[.slice none 0 0] 34 (0,0))
 err:W.heap[s0+1]? = some (.cells #[.nilIface] 25 (0,0))
 row:∃v,W.heap[s0+2]? = some (.cells #[v] 34 (0,0))/\W.ownsRow (s0+6) 54 2 v k (eP (iQ l k))
structure PI(s0:Nat)(w:World)(a:Addr)(W:World):Prop where
 aI:Below s0 w W
 res:W.heap[s0]? = some (.cells #[.slice none 0 0] 34 (0,0))
 err:W.heap[s0+1]? = some (.cells #[.iface 397 (.pointer (some a))] 25 (0,0))
theorem U4{w:World}{j:Nat}{e:TypeId}{D:Nat}{v:Value}{n:Nat}{xs:List Value}(h:w.ownsRow j e D v n xs)(b:Nat)(J:b<j)(o:Obj):(w.putObj b o).ownsRow j e D v n xs:=by
 obtain⟨F,A⟩:=h;refine⟨F,?_⟩;rcases A with A|⟨g,q,z,I,G,H,t⟩
 ·exact .inl A
 ·exact .inr ⟨g,q,z,I,G,by rw[World.putObj_heap_other fM];exact H,t⟩
theorem uP{j:Nat}{w W:World}(h:Below j w W)(b:Nat)(q:j<=b)(o:Obj):Below j w (W.putObj b o):=
 h.trans ⟨rfl,rfl,rfl,rQ,λk z=>World.putObj_heap_other fM⟩
theorem JF.put{j:Nat}{w:World}{l:List UInt8}{k:Nat}{W:World}(h:JF j w l k W)(b:Nat)(o:Obj)(G:j+4<=b)(H:b<=j+5):JF j w l k (W.putObj b o):=by
 obtain⟨q,D,z,v,F,A⟩:=h;exact⟨uP q b fM o,(World.putObj_heap_other fM).trans D,(World.putObj_heap_other fM).trans z,v,(World.putObj_heap_other fM).trans F,U4 A b fM o⟩
theorem JF.drewN{j:Nat}{w:World}{l:List UInt8}{k:Nat}{W:World}(h:JF j w l k W)(q:Nat):JF j w l k (W.drewN q):=
 ⟨below_draws h.aI q,h.res,h.err,h.row⟩
theorem PI.put{j:Nat}{w:World}{a:Addr}{W:World}(h:PI j w a W)(b:Nat)(o:Obj)(q:j+4<=b):PI j w a (W.putObj b o):=
 ⟨uP h.aI b fM o,(World.putObj_heap_other fM).trans h.res,(World.putObj_heap_other fM).trans h.err⟩
theorem zw{X:World}{j:Nat}{a b:Value}(A:X.heap[j]? = some (.cells #[a] 34 (0,0)))(D:X.heap[j+1]? = some (.cells #[b] 25 (0,0)))(o:Obj):
  (X.putObj (j+4) o).cell? ⟨j,0,none⟩=some a/\(X.putObj (j+4) o).cell? ⟨j+1,0,none⟩=some b:=by
 have q:(X.putObj (j+4) o).heap[j]? = some (.cells #[a] 34 (0,0)):=(World.putObj_heap_other fM).trans A;have z:(X.putObj (j+4) o).heap[j+1]? = some (.cells #[b] 25 (0,0)):=(World.putObj_heap_other fM).trans D;simp only[World.cell?,q,z];exact⟨rfl,rfl⟩
theorem FH{X:World}{j:Nat}{a b a' b':Value}(o:X.heap[j]? = some (.cells #[a] 34 (0,0)))(q:X.heap[j+1]? = some (.cells #[b] 25 (0,0))):
  ((X.setCell ⟨j,0,none⟩ a').setCell ⟨j+1,0,none⟩ b').heap[j]? = some (.cells #[a'] 34 (0,0))/\((X.setCell ⟨j,0,none⟩ a').setCell ⟨j+1,0,none⟩ b').heap[j+1]? = some (.cells #[b'] 25 (0,0)) /\
  (∀k,k≠j->k≠j+1->((X.setCell ⟨j,0,none⟩ a').setCell ⟨j+1,0,none⟩ b').heap[k]? = X.heap[k]?):=by
 refine⟨?_,?_,λk z A=>?_⟩
 ·rw[Below.heap_setCell _ _ _ _ (by show j≠j+1;omega),dw o 0 _];rfl
 ·rw[dw ((Below.heap_setCell _ _ _ _ (by show j+1≠j;omega)).trans q) 0 _];rfl
 ·rw[Below.heap_setCell _ _ _ _ A,Below.heap_setCell _ _ _ _ z]
theorem Qv{X Y:World}{j b i:Nat}(o:Obj)(q:j+4<b)(h:∀k,k≠j->k≠j+1->Y.heap[k]? = X.heap[k]?):(Y.putObj (j+4) o).cell? ⟨b,i,none⟩=X.cell? ⟨b,i,none⟩:=by
 have e:(Y.putObj (j+4) o).heap[b]? = X.heap[b]?:=(World.putObj_heap_other fM).trans (h b fM fM);simp only[World.cell?,e]
def aci(w w':World)(l:List UInt8)(ea:Nat->Addr)(e:Ending):Prop:=
 Below w.heap.size w w'/\((scan l [] [] [] false=none/\e = .returned (.tuple #[.slice none 0 0,.iface 397 (.pointer (some (ea 0)))])) \/
  ∃out:List (List UInt8×List UInt8),scan l [] [] [] false=some out/\1<=out.length/\out.length<=l.length+1/\(∀p,p∈out->p.1.length<=l.length/\p.2.length<=l.length) /\
   ((6<out.length/\e = .returned (.tuple #[.slice none 0 0,.iface 397 (.pointer (some (ea 1)))])) \/
   (out.length<=6/\∃m,m<=out.length/\(∀i,i<m->iN (nameAt out) (cK out) i=true)/\(m<out.length->iN (nameAt out) (cK out) m=false) /\
    ((m=out.length/\∃v,e = .returned (.tuple #[v,.nilIface])/\w'.ownsRow w.heap.size 54 2 v out.length (eP out)) \/
     (m<out.length/\∃pb:Nat,e = .returned (.tuple #[.slice none 0 0,.iface 72 (.pointer (some ⟨pb,0,none⟩))])/\w.heap.size<=pb/\w'.cell? ⟨pb,0,none⟩=some (.int .i64 (m:Int))/\w'.cell? ⟨pb,1,none⟩=some (.iface 397 (.pointer (some (if (isName (nameAt out m)&&isWord (cK out m))=true then ea 2 else ea 3)))))))))
theorem Zk(s:ByteArray)(w:World)(hs:s.size<=100000)(ea:Nat->Addr)(e0:w.cell? ⟨1,0,none⟩=some (.iface 397 (.pointer (some (ea 0)))))(e1:w.cell? ⟨0,0,none⟩=some (.iface 397 (.pointer (some (ea 1)))))
  (e2:w.cell? ⟨2,0,none⟩=some (.iface 397 (.pointer (some (ea 2))))) (e3:w.cell? ⟨3,0,none⟩=some (.iface 397 (.pointer (some (ea 3))))) :
  Calls prog 87 #[.string s] w λe w'=>aci w w' s.data.toList ea e:=by
 obtain⟨l,hl⟩:=bF s.data.toList;have ý:l.length=s.size:=by rw[hl];exact Array.length_toList
 obtain⟨z,Ó,hmt,hmf⟩:=Zh l;obtain⟨m,hm,hhas,aek⟩:=zY (FE l) (z+1);have Ś:∀i,i<z+1->oZ l i=decide (i+1<z+1):=λi hi=>by
  rcases lt_or_ge i z with h|h
  ·rw[hmt i h];simp;omega
  ·have:i=z:=fM;subst this;rw[hmf];simp
 have HL:=ą hl;have HMT:=ą hmt;have Zl:=ą hmf;have akw:=ą Ś;have WL:=ą hhas;have ael:=ą aek;have g0:=World.block_lt_of_cell? w ⟨1,0,none⟩ e0;have g1:=World.block_lt_of_cell? w ⟨0,0,none⟩ e1;have g2:=World.block_lt_of_cell? w ⟨2,0,none⟩ e2;have g3:=World.block_lt_of_cell? w ⟨3,0,none⟩ e3;have HE:Hid (_/\_/\_/\_):=⟨e0,e1,e2,e3⟩;have Bp:Hid _:=λw0=>WK s w0
 rw[<-hl];clear hl hmt hmf Ś hhas aek e0 e1 e2 e3;refine callsIn_wide.1 (callsIn_of_wp_marks (n:=0) func87 rfl trivial (wpIn_wide.2 ?_));simp only[ntmps87,size_toArray,length_cons,length_nil,Nat.reduceAdd,Nat.reduceSub,Array.replicate_succ,Array.replicate_zero,push_toArray,append_toArray,nil_append,cons_append];go_wp2_with fail;refine Calls.mono (Bp.out _) ?_;rintro e w1 ⟨rfl,rfl⟩;go_wp2;obtain⟨W0,Ā⟩:=bF ((((w.alloc (.cells #[.slice none 0 0] 34)).alloc (.cells #[.nilIface] 25)).alloc (.cells #[.slice none 0 0] 34)).alloc (.cells #[.string s] 9));have ă:W0.heap.size=w.heap.size+4:=by rw[Ā];simp
 have Ï:Below w.heap.size w W0:=by rw[Ā];exact ((((Below.refl _ _).alloc (le_refl _) _).alloc rQ _).alloc qz _).alloc qz _
 have ď:W0.heap[w.heap.size]? = some (.cells #[.slice none 0 0] 34 (0,0)):=by
  rw[Ā,Below.heap_alloc _ _ _ qz,Below.heap_alloc _ _ _ qz,Below.heap_alloc _ _ _ rQ];exact heap_alloc_new _ _
 have ϯ:W0.heap[w.heap.size+1]? = some (.cells #[.nilIface] 25 (0,0)):=by
  rw[Ā,Below.heap_alloc _ _ _ rQ,Below.heap_alloc _ _ _ rQ];have:=heap_alloc_new (w.alloc (.cells #[.slice none 0 0] 34)) (.cells #[.nilIface] 25);simpa using this
 have í:W0.heap[w.heap.size+2]? = some (.cells #[.slice none 0 0] 34 (0,0)):=by
  rw[Ā,Below.heap_alloc _ _ _ rQ];have:=heap_alloc_new ((w.alloc (.cells #[.slice none 0 0] 34)).alloc (.cells #[.nilIface] 25)) (.cells #[.slice none 0 0] 34);simpa using this
 have ι:W0.heap[w.heap.size+3]? = some (.cells #[.string s] 9 (0,0)):=by
  rw[Ā];have:=heap_alloc_new (((w.alloc (.cells #[.slice none 0 0] 34)).alloc (.cells #[.nilIface] 25)).alloc (.cells #[.slice none 0 0] 34)) (.cells #[.string s] 9);simpa using this
 rw[<-Ā];have afL:Mq prog 179 #[.pointer (some ⟨w.heap.size+3,0,none⟩)] (λk=>#[.string (txt (lY l k))]) m (z+1) W0:=by
  rw[HL.out];refine Pg (w.heap.size+3) s W0 fM m (z+1) hm fM ?_ (by simp[World.cell?,ι]);rw[<-HL.out];exact akw.out
 refine TU (gf:=179) (lb:=#[.pointer (some ⟨w.heap.size+3,0,none⟩)]) rfl (enters_of func179 kM rfl) m (z+1) (λk=>#[.string (txt (lY l k))]) (λ_=>rfl) afL
  (JF w.heap.size w l) (PI w.heap.size w (ea 0)) ?am4 ?akx ?am5 ?start
  (λk=>{ tmps:=#[.string s,undef,.pointer (some ⟨w.heap.size,0,none⟩),.pointer (some ⟨w.heap.size+1,0,none⟩),.pointer (some ⟨w.heap.size+2,0,none⟩),.string (txt (lY l k)),undef,undef,undef,undef,.string s,.func (.func 179) #[] #[.pointer (some ⟨w.heap.size+3,0,none⟩)],.string (txt (lY l k)),undef,undef,undef,undef,undef,undef,undef,undef,undef,undef,undef,undef,undef,undef,undef,undef,undef,undef,undef,undef,undef],defers:=[] })
  ?assign ?body ?last ?done ?stop
 case am4=>intro k A b o h1 R h;exact h.put b o fM fM
 case akx=>intro k A q h;exact h.drewN q
 case am5=>intro A b o h1 _ h;exact h.put b o fM
 case start=>
  intro o1 o2;refine⟨(Ï.alloc fM _).alloc qz _,?_,?_,.slice none 0 0,?_,?_⟩
  ·rw[Below.heap_alloc _ _ _ qz,Below.heap_alloc _ _ _ fM];exact ď
  ·rw[Below.heap_alloc _ _ _ qz,Below.heap_alloc _ _ _ fM];exact ϯ
  ·rw[Below.heap_alloc _ _ _ qz,Below.heap_alloc _ _ _ fM];exact í
  ·exact⟨by simp[eP,iQ],.inl ⟨rfl,rfl⟩⟩
 case assign=>
  intro lp k W K hK;gi_wp2;exact hK
 case body=>
  intro lp k W ú Λ ϗ;obtain⟨Z,Ė,Mv,v,Y,ό⟩:=Λ;have hcut:=λw0=>Mr (txt (lY l k)) w0 (by rw[dH];have:=Ho l k;omega)
  have hh:=WL.out k ú;have hf:(aJ 61 (txt (lY l k)).data.toList).2.2=FE l k:=rfl;have hn:txt (aJ 61 (txt (lY l k)).data.toList).1=txt (sZ l k).1:=rfl;have hvv:txt (aJ 61 (txt (lY l k)).data.toList).2.1=txt (sZ l k).2:=rfl;rw[hf,hn,hvv,hh] at hcut;have Qu:=ą hcut;gi_wp2_with fail;refine⟨trivial,rfl,?_⟩;refine CallsIn.mono (CallsIn.inRound lp (callsIn_wide.2 (Qu.out _))) ?_;rintro e H ⟨rfl,q,Q⟩;have O:Hid (H.heap=W.heap/\Below w.heap.size w H):=by rw[Q];exact⟨rfl,below_draws Z q⟩
  have ŉ:H.heap[w.heap.size+2]? = some (.cells #[v] 34 (0,0)):=by rw[Q];exact Y
  have Å:H.ownsRow (w.heap.size+6) 54 2 v k (eP (iQ l k)):=by rw[Q];exact ό
  have HS2:Hid (H.heap.size=W.heap.size):=by rw[Q];exact Eq.refl W.heap.size
  clear Q;have c0:H.cell? ⟨w.heap.size+2,0,none⟩=some v:=by simp[World.cell?,ŉ]
  obtain⟨i0,hi,ò,å,ô⟩:=info_parts Tryz.infoLabel;have HI:=ą hi;have zq:(H.alloc (.cells #[.string (txt (sZ l k).1),.string (txt (sZ l k).2)] 54)).ownsRow (w.heap.size+6) 54 2 v k (eP (iQ l k)):=Å.alloc _;gi_wp2_with (gi_at_builtin;refine wpListIn_append_own _ rfl _ _ 34 rfl (w.heap.size+6) 54 i0 (.agg #[.string ⟨#[]⟩,.string ⟨#[]⟩]) 2 32 underlying34 HI.out ò å ô rfl lJ _ _ _ rfl zq ⟨H.heap.size,0,none⟩ 1 1 [.string (txt (sZ l k).1),.string (txt (sZ l k).2)] rfl rfl (World.news_of_block (heap_alloc_new H _)) ?c2 ?c3 ?c4 ?c5 ?_);case c2=>first|exact⟨rfl,rfl⟩|(intro q Q;simp at Q;rcases Q with rfl|rfl<;>rfl)
  case c3=>unfold maxLen;omega
  case c4=>omega
  case c5=>have:=HS2.out;simp;omega
  intro v' w3 ð ϑ _;rw[Pe (iQ l k) (sZ l k),<-Ca] at ð;have Η:=HS2.out;have qX:∀b,b<w.heap.size+6->w3.heap[b]? = W.heap[b]?:=λb hb=>by
   have h1:(H.alloc (.cells #[.string (txt (sZ l k).1),.string (txt (sZ l k).2)] 54)).heap[b]? = W.heap[b]?:=by
    rw[Below.heap_alloc _ _ _ fM,O.out.1]
   rw[ϑ.block b qz ?_,h1];intro e;rcases Å.2 with⟨D,_⟩|⟨g,F,V,D,hgb,_⟩
   ·rw[D] at e;simp[Value.ownBlock] at e
   ·rw[D] at e;simp[Value.ownBlock] at e;omega
  have aky:Below w.heap.size w w3:=by
   have R:=O.out.2;refine⟨ϑ.os.trans R.os,ϑ.tape.trans R.tape,ϑ.output.trans R.output,?_,λb hb=>?_⟩
   ·have h3:=ϑ.size;simp at h3;omega
   ·rw[qX b fM];exact Z.block b hb
  have ι:=(qX _ fM).trans Y;have d0:w3.cell? ⟨w.heap.size+2,0,none⟩=some v:=by simp[World.cell?,ι]
  have f0:w3.frozen? ⟨w.heap.size+2,0,none⟩=false:=by simp[World.frozen?,ι]
  obtain⟨ao,n',F,D⟩:∃ao n' F,v' = .slice ao n' F:=by
   rcases ð.2 with⟨D,_⟩|⟨g,F,V,D,_⟩
   ·exact⟨_,_,_,D⟩
   ·exact⟨_,_,_,D⟩
  have HV':=ą D;have WM:=ą qX;have akz:=ą aky;have DW:=ą ð;have tq:Hid (_/\_):=⟨Ė,Mv⟩;have HR3:=ą ι;subst D;gi_wp2;refine⟨⟨akz.out.setCell rQ _,?_,?_,.slice ao n' F,?_,?_⟩,?_,?_⟩
  ·rw[Below.heap_setCell _ _ _ _ (by show w.heap.size≠w.heap.size+2;omega),WM.out _ fM];exact tq.out.1
  ·rw[Below.heap_setCell _ _ _ _ (by show w.heap.size+1≠w.heap.size+2;omega),WM.out _ fM];exact tq.out.2
  ·rw[dw HR3.out 0 _];rfl
  ·exact DN DW.out _ _ fM _
  ·rw[Below.heap_setCell _ _ _ _ (by show w.heap.size+4≠w.heap.size+2;omega),WM.out _ fM]
  ·rw[Below.heap_setCell _ _ _ _ (by show w.heap.size+4+1≠w.heap.size+2;omega),WM.out _ fM]
 case last=>
  intro lp W Û Λ ϗ;obtain⟨Z,Ė,Mv,v,Y,ό⟩:=Λ;have hcut:=λw0=>Mr (txt (lY l m)) w0 (by rw[dH];have:=Ho l m;omega)
  have hh:=ael.out Û;have hf:(aJ 61 (txt (lY l m)).data.toList).2.2=FE l m:=rfl;have hn:txt (aJ 61 (txt (lY l m)).data.toList).1=txt (sZ l m).1:=rfl;have hvv:txt (aJ 61 (txt (lY l m)).data.toList).2.1=txt (sZ l m).2:=rfl;rw[hf,hn,hvv,hh] at hcut;have Qu:=ą hcut;gi_wp2_with fail;refine⟨trivial,rfl,?_⟩;refine CallsIn.mono (CallsIn.inRound lp (callsIn_wide.2 (Qu.out _))) ?_;rintro e H ⟨rfl,q,Q⟩;have O:Hid (H.heap=W.heap/\Below w.heap.size w H):=by rw[Q];exact⟨rfl,below_draws Z q⟩
  have G:H.heap[w.heap.size]? = some (.cells #[.slice none 0 0] 34 (0,0)):=by rw[Q];exact Ė
  have PK:H.heap[w.heap.size+1]? = some (.cells #[.nilIface] 25 (0,0)):=by rw[Q];exact Mv
  have ϒ:=O.out.2;have k0:H.cell? ⟨w.heap.size,0,none⟩=some (.slice none 0 0):=by simp[World.cell?,G]
  have k1:H.cell? ⟨w.heap.size+1,0,none⟩=some .nilIface:=by simp[World.cell?,PK]
  have z0:H.frozen? ⟨w.heap.size,0,none⟩=false:=by simp[World.frozen?,G]
  have z1:H.frozen? ⟨w.heap.size+1,0,none⟩=false:=by simp[World.frozen?,PK]
  have x0:=(ϒ.cell (p:=⟨1,0,none⟩) g0).trans HE.out.1;have HX:Hid (_/\_/\_):=⟨ϒ,G,PK⟩;clear Q Z Ė Mv ϒ G PK;have am6:prog.follows .mixedOrders=true:=kM;gi_wp2_with fail;gi_region_o;all_goals
   gi_wp2;have hX:=HX.out;refine⟨⟨(((hX.1.setCell (le_refl _) _).setCell rQ _).trans ⟨rfl,rfl,rfl,le_refl _,λ_ _=>rfl⟩),?_,?_⟩,?_,?_⟩
   ·show (World.setCell _ _ _).heap[_]? = _;rw[Below.heap_setCell _ _ _ _ (by show w.heap.size≠w.heap.size+1;omega),dw hX.2.1 0 _];rfl
   ·show (World.setCell _ _ _).heap[_]? = _;rw[dw ((Below.heap_setCell _ _ _ _ (by show w.heap.size+1≠w.heap.size;omega)).trans hX.2.2) 0 _];rfl
   ·show (World.setCell _ _ _).heap[_]? = _;rw[Below.heap_setCell _ _ _ _ (by show _≠w.heap.size+1;omega),Below.heap_setCell _ _ _ _ (by show _≠w.heap.size;omega),O.out.1]
   ·show (World.setCell _ _ _).heap[_]? = _;rw[Below.heap_setCell _ _ _ _ (by show _≠w.heap.size+1;omega),Below.heap_setCell _ _ _ _ (by show _≠w.heap.size;omega),O.out.1]
 case done=>
  intro W Û Λ hK;obtain⟨Z,Ė,Mv,v,Y,ό⟩:=Λ;have Ī:=Pf l (z+1);have I:W.ownsRow (w.heap.size+6) 54 2 v (iQ l (z+1)).length (eP (iQ l (z+1))):=by rw[Ī];exact ό
  obtain⟨va,vc,rfl,hvc,aem⟩:=zX I;have Zm:=ą (Zj l z (λi hi=>⟨HMT.out i hi,WL.out i fM⟩) (WL.out z fM) Zl.out);have gX:Hid (∀p,p∈iQ l (z+1)->p.1.length<=l.length/\p.2.length<=l.length):=λp hp=>by
   simp[iQ] at hp;obtain⟨i,_,rfl⟩:=hp;exact Zg l i
  rw[Ī] at aem I hvc;have Ϡ:∀i,i<z+1->(nameAt (iQ l (z+1)) i).size<=1000000/\(cK (iQ l (z+1)) i).size<=1000000:=λi hi=>by
   have e:(iQ l (z+1)).getD i ([],[])=sZ l i:=by simp[iQ,hi]
   unfold nameAt cK;rw[e,dH,dH];have:=Zg l i;omega
  have hE:=HE.out;have y1:=(Z.cell (p:=⟨0,0,none⟩) g1).trans hE.2.1;have y2:=(Z.cell (p:=⟨2,0,none⟩) g2).trans hE.2.2.1;have y3:=(Z.cell (p:=⟨3,0,none⟩) g3).trans hE.2.2.2;have c2:W.cell? ⟨w.heap.size+2,0,none⟩=some (.slice va (z+1) vc):=by
   rw[Ī] at Y;simp[World.cell?,Y]
  have HB:=ą Z;have U:Hid (_/\_/\_):=⟨Ė,Mv,hK⟩;have HOWN:=ą I;have j:=ą Ī;by_cases h6:6<z+1
  ·have wL:Hid _:=Ip W va (z+1) vc h6 fM (ea 1) y1;have k0:W.cell? ⟨w.heap.size,0,none⟩=some (.slice none 0 0):=by simp[World.cell?,U.out.1]
   have k1:W.cell? ⟨w.heap.size+1,0,none⟩=some .nilIface:=by simp[World.cell?,U.out.2.1]
   have z0:W.frozen? ⟨w.heap.size,0,none⟩=false:=by simp[World.frozen?,U.out.1]
   have z1:W.frozen? ⟨w.heap.size+1,0,none⟩=false:=by simp[World.frozen?,U.out.2.1]
   go_wp2_with fail;refine Calls.mono wL.out ?_;rintro e w1 ⟨rfl,ϕ⟩;have aY:=ϕ.symm;subst aY;go_wp2;obtain⟨q0,q1,q2⟩:=FH (a':=.slice none 0 0) (b':=.iface 397 (.pointer (some (ea 1)))) U.out.1 U.out.2.1;refine⟨rQ,.inl ⟨_,_,rfl,run_takeDeferred ((q2 _ fM fM).trans (by have:=U.out.2.2;rwa [ă] at this)),?_⟩⟩;obtain⟨p0,p1⟩:=zw q0 q1 (.deferred none);refine⟨.tuple #[.slice none 0 0,.iface 397 (.pointer (some (ea 1)))],by simp[results,results87,go_sem,p0,p1],?_,.inr ⟨_,Zm.out,?_,?_,gX.out,.inl ⟨?_,rfl⟩⟩⟩
   ·exact uP ((HB.out.setCell (le_refl _) _).setCell rQ _) _ fM _
   ·rw[j.out];omega
   ·rw[j.out];omega
   ·rw[j.out];exact h6
  ·obtain⟨mm,hmm,ϲ,ϩ⟩:=zY (iN (nameAt (iQ l (z+1))) (cK (iQ l (z+1)))) (z+1);have wL:Hid _:=Kn W va (z+1) vc _ _ aem Ϡ fM fM mm hmm ϲ ϩ (ea 3) (ea 2) y3 y2;have fI:=ą (And.intro ϲ ϩ);go_wp2_with fail;refine Calls.mono wL.out ?_;rintro e w1 ⟨ώ,À⟩;have Bq:=HB.out.size;have i4:w.heap.size+4<W.heap.size:=by have h:=U.out.2.2;rw[ă] at h;exact (Array.getElem?_eq_some_iff.1 h).1
   have uQ:w1.heap[w.heap.size]? = some (.cells #[.slice none 0 0] 34 (0,0))/\w1.heap[w.heap.size+1]? = some (.cells #[.nilIface] 25 (0,0))/\w1.heap[w.heap.size+4]? = some (.deferred (some [])):=
    ⟨(ώ.block _ fM).trans U.out.1,(ώ.block _ fM).trans U.out.2.1,(ώ.block _ fM).trans (by have h:=U.out.2.2;rwa [ă] at h)⟩
   have k0:w1.cell? ⟨w.heap.size,0,none⟩=some (.slice none 0 0):=by simp[World.cell?,uQ.1]
   have k1:w1.cell? ⟨w.heap.size+1,0,none⟩=some .nilIface:=by simp[World.cell?,uQ.2.1]
   have z0:w1.frozen? ⟨w.heap.size,0,none⟩=false:=by simp[World.frozen?,uQ.1]
   have z1:w1.frozen? ⟨w.heap.size+1,0,none⟩=false:=by simp[World.frozen?,uQ.2.1]
   have k2:=(ώ.cell (p:=⟨w.heap.size+2,0,none⟩) (by show w.heap.size+2<W.heap.size;omega)).trans c2;have J:=ą uQ;have HB1:=ą ώ;rcases À with⟨acj,rfl⟩|⟨acj,pb,rfl,ĺ,p0,p1⟩
   ·have k2s:(w1.setCell ⟨w.heap.size,0,none⟩ (.slice va (z+1) vc)).cell? ⟨w.heap.size+1,0,none⟩=some .nilIface:=by
     rw[World.cell?_setCell_other _ _ _ _ (by intro e;injection e with e1;omega)];exact k1
    go_wp2;obtain⟨q0,q1,q2⟩:=FH (a':=.slice va (z+1) vc) (b':=.nilIface) J.out.1 J.out.2.1;refine⟨rQ,.inl ⟨_,_,rfl,run_takeDeferred ((q2 _ fM fM).trans J.out.2.2),?_⟩⟩;obtain⟨p0,p1⟩:=zw q0 q1 (.deferred none);refine⟨.tuple #[.slice va (z+1) vc,.nilIface],by simp[results,results87,go_sem,p0,p1],?_,.inr ⟨_,Zm.out,?_,?_,gX.out,.inr ⟨?_,mm,?_,fI.out.1,?_,.inl ⟨?_,_,rfl,?_⟩⟩⟩⟩
    ·exact uP (((HB.out.trans (HB1.out.mono Bq)).setCell (le_refl _) _).setCell rQ _) _ fM _
    ·rw[j.out];omega
    ·rw[j.out];omega
    ·rw[j.out];omega
    ·rw[j.out];omega
    ·rw[j.out];exact fI.out.2
    ·rw[j.out];exact acj
    ·rw[j.out];have ϕ:w1.ownsRow (w.heap.size+6) 54 2 (.slice va (z+1) vc) (z+1) (eP (iQ l (z+1))):=by
      obtain⟨h1,R⟩:=HOWN.out;refine⟨h1,?_⟩;rcases R with R|⟨g,F,V,Y,hg,hh,t⟩
      ·exact .inl R
      ·exact .inr ⟨g,F,V,Y,hg,(HB1.out.block _ (aC hh)).trans hh,t⟩
     have h3:=U4 (DN (DN ϕ w.heap.size 0 fM (.slice va (z+1) vc)) (w.heap.size+1) 0 fM .nilIface) (w.heap.size+4) fM (.deferred none);obtain⟨h1,R⟩:=h3;refine⟨h1,?_⟩;rcases R with R|⟨g,F,V,Y,hg,t⟩
     ·exact .inl R
     ·exact .inr ⟨g,F,V,Y,fM,t⟩
   ·have HP:Hid (_/\_/\_):=⟨ĺ,p0,p1⟩;go_wp2;obtain⟨q0,q1,q2⟩:=FH (a':=.slice none 0 0) (b':=.iface 72 (.pointer (some ⟨pb,0,none⟩))) J.out.1 J.out.2.1;refine⟨rQ,.inl ⟨_,_,rfl,run_takeDeferred ((q2 _ fM fM).trans J.out.2.2),?_⟩⟩;obtain⟨p0,p1⟩:=zw q0 q1 (.deferred none);refine⟨.tuple #[.slice none 0 0,.iface 72 (.pointer (some ⟨pb,0,none⟩))],by simp[results,results87,go_sem,p0,p1],?_,.inr ⟨_,Zm.out,?_,?_,gX.out,.inr ⟨?_,mm,?_,fI.out.1,?_,.inr ⟨?_,pb,rfl,?_,?_,?_⟩⟩⟩⟩
    ·exact uP (((HB.out.trans (HB1.out.mono Bq)).setCell (le_refl _) _).setCell rQ _) _ fM _
    ·rw[j.out];omega
    ·rw[j.out];omega
    ·rw[j.out];omega
    ·rw[j.out];omega
    ·rw[j.out];exact fI.out.2
    ·rw[j.out];exact acj
    ·have:=HP.out.1;omega
    ·exact (Qv _ (by have:=HP.out.1;omega) q2).trans HP.out.2.1
    ·exact (Qv _ (by have:=HP.out.1;omega) q2).trans HP.out.2.2
 case stop=>
  intro W Û hx hK;have HX:=ą hx;have HK:=ą hK;have Zm:=ą (Zi l m (λi hi=>⟨HMT.out i fM,WL.out i hi⟩) (ael.out Û));go_wp2;refine⟨rQ,.inl ⟨_,_,rfl,run_takeDeferred (by have h:=HK.out;rwa [ă] at h),?_⟩⟩;obtain⟨p0,p1⟩:=zw HX.out.res HX.out.err (.deferred none);exact⟨.tuple #[.slice none 0 0,.iface 397 (.pointer (some (ea 0)))],by simp[results,results87,go_sem,ă,p0,p1],uP HX.out.aI _ fM _,.inl ⟨Zm.out,rfl⟩⟩
