/-
  Tables and rows as data: how they read in memory, what they are as sizes.
-/
import Derived.Test.YtakhcgkhjmfndaaGreatSizes
import Derived.Test.YtakhcgkhjmfndaaGreatLawVals2
namespace Go.Proofs.YtakhcgkhjmfndaaGreat
open Go.RowKit
set_option linter.unusedVariables false

def IntR : Rd Int := FlatR fun n => [.int .i64 n]
def TkR : Rd Tk := FlatR Tk.cells
def VlR : Rd Vl := FlatR Vl.cells
theorem IntR.stays : Stays IntR := FlatR.stays _
theorem TkR.stays : Stays TkR := FlatR.stays _
theorem VlR.stays : Stays VlR := FlatR.stays _

structure Cl where
  name : ByteArray
  kind : Int
  nn : Bool
  d : Vl
def Cl.cells (x : Cl) : List Value := [.string x.name, .int .i64 x.kind, .bool x.nn, .int .i64 x.d.k, .int .i64 x.d.n, .string x.d.s]
def ClR : Rd Cl := FlatR Cl.cells
theorem ClR.stays : Stays ClR := FlatR.stays _
def Cl.sz (x : Cl) : Nat := x.name.size + x.d.s.size
def Cl.wf (x : Cl) : Prop := x.name.size ≤ maxLen ∧ x.d.s.size ≤ maxLen

structure Uq where
  cols : List Int
def UqR : Rd Uq := fun ok w cs x => ∃ (A0 : Option Addr) (n0 c0 : Nat), cs = [.slice A0 n0 c0] ∧ Sl IntR 1 ok w A0 n0 x.cols ∧ (n0 ≤ c0)
theorem UqR.stays : Stays UqR := fun _ _ _ _ _ _ ⟨A0, n0, c0, e, h0, hcp⟩ ho hk => ⟨A0, n0, c0, e, h0.stays IntR.stays ho hk, hcp⟩
def Uq.sz (x : Uq) : Nat := x.cols.length
def Uq.wf (x : Uq) : Prop := x.cols.length ≤ maxLen

structure Ck where
  expr : List Tk
def CkR : Rd Ck := fun ok w cs x => ∃ (A0 : Option Addr) (n0 c0 : Nat), cs = [.slice A0 n0 c0] ∧ Sl TkR 5 ok w A0 n0 x.expr ∧ (n0 ≤ c0)
theorem CkR.stays : Stays CkR := fun _ _ _ _ _ _ ⟨A0, n0, c0, e, h0, hcp⟩ ho hk => ⟨A0, n0, c0, e, h0.stays TkR.stays ho hk, hcp⟩
def Ck.sz (x : Ck) : Nat := szL (fun t : Tk => t.vs.size) x.expr
def Ck.wf (x : Ck) : Prop := (x.expr.length ≤ maxLen ∧ ∀ t ∈ x.expr, t.vs.size ≤ maxLen)

structure Fk where
  cols : List Int
  table : ByteArray
  del : Int
  upd : Int
  dfr : Bool
def FkR : Rd Fk := fun ok w cs x => ∃ (A0 : Option Addr) (n0 c0 : Nat), cs = [.slice A0 n0 c0, .string x.table, .int .i64 x.del, .int .i64 x.upd, .bool x.dfr] ∧ Sl IntR 1 ok w A0 n0 x.cols ∧ (n0 ≤ c0)
theorem FkR.stays : Stays FkR := fun _ _ _ _ _ _ ⟨A0, n0, c0, e, h0, hcp⟩ ho hk => ⟨A0, n0, c0, e, h0.stays IntR.stays ho hk, hcp⟩
def Fk.sz (x : Fk) : Nat := x.cols.length + x.table.size
def Fk.wf (x : Fk) : Prop := x.cols.length ≤ maxLen ∧ x.table.size ≤ maxLen

structure Tb where
  name : ByteArray
  cols : List Cl
  key : List Int
  uniqs : List Uq
  checks : List Ck
  fks : List Fk
def TbR : Rd Tb := fun ok w cs x => ∃ (A1 : Option Addr) (n1 c1 : Nat) (A2 : Option Addr) (n2 c2 : Nat) (A3 : Option Addr) (n3 c3 : Nat) (A4 : Option Addr) (n4 c4 : Nat) (A5 : Option Addr) (n5 c5 : Nat), cs = [.string x.name, .slice A1 n1 c1, .slice A2 n2 c2, .slice A3 n3 c3, .slice A4 n4 c4, .slice A5 n5 c5] ∧ Sl ClR 6 ok w A1 n1 x.cols ∧ Sl IntR 1 ok w A2 n2 x.key ∧ Sl UqR 1 ok w A3 n3 x.uniqs ∧ Sl CkR 1 ok w A4 n4 x.checks ∧ Sl FkR 5 ok w A5 n5 x.fks ∧ (n1 ≤ c1 ∧ n2 ≤ c2 ∧ n3 ≤ c3 ∧ n4 ≤ c4 ∧ n5 ≤ c5)
theorem TbR.stays : Stays TbR := fun _ _ _ _ _ _ ⟨A1, n1, c1, A2, n2, c2, A3, n3, c3, A4, n4, c4, A5, n5, c5, e, h1, h2, h3, h4, h5, hcp⟩ ho hk => ⟨A1, n1, c1, A2, n2, c2, A3, n3, c3, A4, n4, c4, A5, n5, c5, e, h1.stays ClR.stays ho hk, h2.stays IntR.stays ho hk, h3.stays UqR.stays ho hk, h4.stays CkR.stays ho hk, h5.stays FkR.stays ho hk, hcp⟩
def Tb.sz (x : Tb) : Nat := x.name.size + szL Cl.sz x.cols + x.key.length + szL Uq.sz x.uniqs + szL Ck.sz x.checks + szL Fk.sz x.fks
def Tb.wf (x : Tb) : Prop := x.name.size ≤ maxLen ∧ (x.cols.length ≤ maxLen ∧ ∀ y ∈ x.cols, y.wf) ∧ x.key.length ≤ maxLen ∧ (x.uniqs.length ≤ maxLen ∧ ∀ y ∈ x.uniqs, y.wf) ∧ (x.checks.length ≤ maxLen ∧ ∀ y ∈ x.checks, y.wf) ∧ (x.fks.length ≤ maxLen ∧ ∀ y ∈ x.fks, y.wf)

structure Rw where
  id : Int
  vals : List Vl
def RwR : Rd Rw := fun ok w cs x => ∃ (A1 : Option Addr) (n1 c1 : Nat), cs = [.int .i64 x.id, .slice A1 n1 c1] ∧ Sl VlR 3 ok w A1 n1 x.vals ∧ (n1 ≤ c1)
theorem RwR.stays : Stays RwR := fun _ _ _ _ _ _ ⟨A1, n1, c1, e, h1, hcp⟩ ho hk => ⟨A1, n1, c1, e, h1.stays VlR.stays ho hk, hcp⟩
def Rw.sz (x : Rw) : Nat := szL (fun v : Vl => v.s.size) x.vals
def Rw.wf (x : Rw) : Prop := (x.vals.length ≤ maxLen ∧ ∀ v ∈ x.vals, v.s.size ≤ maxLen)

structure Dt where
  rows : List Rw
def DtR : Rd Dt := fun ok w cs x => ∃ (A0 : Option Addr) (n0 c0 : Nat), cs = [.slice A0 n0 c0] ∧ Sl RwR 2 ok w A0 n0 x.rows ∧ (n0 ≤ c0)
theorem DtR.stays : Stays DtR := fun _ _ _ _ _ _ ⟨A0, n0, c0, e, h0, hcp⟩ ho hk => ⟨A0, n0, c0, e, h0.stays RwR.stays ho hk, hcp⟩
def Dt.sz (x : Dt) : Nat := szL Rw.sz x.rows
def Dt.wf (x : Dt) : Prop := (x.rows.length ≤ maxLen ∧ ∀ y ∈ x.rows, y.wf)

structure Se where
  col : Int
  expr : List Tk
def SeR : Rd Se := fun ok w cs x => ∃ (A1 : Option Addr) (n1 c1 : Nat), cs = [.int .i64 x.col, .slice A1 n1 c1] ∧ Sl TkR 5 ok w A1 n1 x.expr ∧ (n1 ≤ c1)
theorem SeR.stays : Stays SeR := fun _ _ _ _ _ _ ⟨A1, n1, c1, e, h1, hcp⟩ ho hk => ⟨A1, n1, c1, e, h1.stays TkR.stays ho hk, hcp⟩
def Se.sz (x : Se) : Nat := szL (fun t : Tk => t.vs.size) x.expr
def Se.wf (x : Se) : Prop := (x.expr.length ≤ maxLen ∧ ∀ t ∈ x.expr, t.vs.size ≤ maxLen)

structure Sq where
  kind : Int
  table : ByteArray
  rows : List Rw
  wher : List Tk
  sets : List Se
  policy : Int
def SqR : Rd Sq := fun ok w cs x => ∃ (A2 : Option Addr) (n2 c2 : Nat) (A3 : Option Addr) (n3 c3 : Nat) (A4 : Option Addr) (n4 c4 : Nat), cs = [.int .i64 x.kind, .string x.table, .slice A2 n2 c2, .slice A3 n3 c3, .slice A4 n4 c4, .int .i64 x.policy] ∧ Sl RwR 2 ok w A2 n2 x.rows ∧ Sl TkR 5 ok w A3 n3 x.wher ∧ Sl SeR 2 ok w A4 n4 x.sets ∧ (n2 ≤ c2 ∧ n3 ≤ c3 ∧ n4 ≤ c4)
theorem SqR.stays : Stays SqR := fun _ _ _ _ _ _ ⟨A2, n2, c2, A3, n3, c3, A4, n4, c4, e, h2, h3, h4, hcp⟩ ho hk => ⟨A2, n2, c2, A3, n3, c3, A4, n4, c4, e, h2.stays RwR.stays ho hk, h3.stays TkR.stays ho hk, h4.stays SeR.stays ho hk, hcp⟩
def Sq.sz (x : Sq) : Nat := x.table.size + szL Rw.sz x.rows + szL (fun t : Tk => t.vs.size) x.wher + szL Se.sz x.sets
def Sq.wf (x : Sq) : Prop := x.table.size ≤ maxLen ∧ (x.rows.length ≤ maxLen ∧ ∀ y ∈ x.rows, y.wf) ∧ (x.wher.length ≤ maxLen ∧ ∀ t ∈ x.wher, t.vs.size ≤ maxLen) ∧ (x.sets.length ≤ maxLen ∧ ∀ y ∈ x.sets, y.wf)

structure Te where
  expr : List Tk
def TeR : Rd Te := fun ok w cs x => ∃ (A0 : Option Addr) (n0 c0 : Nat), cs = [.slice A0 n0 c0] ∧ Sl TkR 5 ok w A0 n0 x.expr ∧ (n0 ≤ c0)
theorem TeR.stays : Stays TeR := fun _ _ _ _ _ _ ⟨A0, n0, c0, e, h0, hcp⟩ ho hk => ⟨A0, n0, c0, e, h0.stays TkR.stays ho hk, hcp⟩
def Te.sz (x : Te) : Nat := szL (fun t : Tk => t.vs.size) x.expr
def Te.wf (x : Te) : Prop := (x.expr.length ≤ maxLen ∧ ∀ t ∈ x.expr, t.vs.size ≤ maxLen)

structure Tg where
  table : ByteArray
  event : Int
  wher : List Tk
  into : ByteArray
  terms : List Te
def TgR : Rd Tg := fun ok w cs x => ∃ (A2 : Option Addr) (n2 c2 : Nat) (A4 : Option Addr) (n4 c4 : Nat), cs = [.string x.table, .int .i64 x.event, .slice A2 n2 c2, .string x.into, .slice A4 n4 c4] ∧ Sl TkR 5 ok w A2 n2 x.wher ∧ Sl TeR 1 ok w A4 n4 x.terms ∧ (n2 ≤ c2 ∧ n4 ≤ c4)
theorem TgR.stays : Stays TgR := fun _ _ _ _ _ _ ⟨A2, n2, c2, A4, n4, c4, e, h2, h4, hcp⟩ ho hk => ⟨A2, n2, c2, A4, n4, c4, e, h2.stays TkR.stays ho hk, h4.stays TeR.stays ho hk, hcp⟩
def Tg.sz (x : Tg) : Nat := x.table.size + szL (fun t : Tk => t.vs.size) x.wher + x.into.size + szL Te.sz x.terms
def Tg.wf (x : Tg) : Prop := x.table.size ≤ maxLen ∧ (x.wher.length ≤ maxLen ∧ ∀ t ∈ x.wher, t.vs.size ≤ maxLen) ∧ x.into.size ≤ maxLen ∧ (x.terms.length ≤ maxLen ∧ ∀ y ∈ x.terms, y.wf)

structure Sv where
  name : ByteArray
  db : List Dt
def SvR : Rd Sv := fun ok w cs x => ∃ (A1 : Option Addr) (n1 c1 : Nat), cs = [.string x.name, .slice A1 n1 c1] ∧ Sl DtR 1 ok w A1 n1 x.db ∧ (n1 ≤ c1)
theorem SvR.stays : Stays SvR := fun _ _ _ _ _ _ ⟨A1, n1, c1, e, h1, hcp⟩ ho hk => ⟨A1, n1, c1, e, h1.stays DtR.stays ho hk, hcp⟩
def Sv.sz (x : Sv) : Nat := x.name.size + szL Dt.sz x.db
def Sv.wf (x : Sv) : Prop := x.name.size ≤ maxLen ∧ (x.db.length ≤ maxLen ∧ ∀ y ∈ x.db, y.wf)

structure Ss where
  schema : List Tb
  db : List Dt
  isOpen : Bool
  start : List Dt
  saves : List Sv
def SsR : Rd Ss := fun ok w cs x => ∃ (A0 : Option Addr) (n0 c0 : Nat) (A1 : Option Addr) (n1 c1 : Nat) (A3 : Option Addr) (n3 c3 : Nat) (A4 : Option Addr) (n4 c4 : Nat), cs = [.slice A0 n0 c0, .slice A1 n1 c1, .bool x.isOpen, .slice A3 n3 c3, .slice A4 n4 c4] ∧ Sl TbR 6 ok w A0 n0 x.schema ∧ Sl DtR 1 ok w A1 n1 x.db ∧ Sl DtR 1 ok w A3 n3 x.start ∧ Sl SvR 2 ok w A4 n4 x.saves ∧ (n0 ≤ c0 ∧ n1 ≤ c1 ∧ n3 ≤ c3 ∧ n4 ≤ c4)
theorem SsR.stays : Stays SsR := fun _ _ _ _ _ _ ⟨A0, n0, c0, A1, n1, c1, A3, n3, c3, A4, n4, c4, e, h0, h1, h3, h4, hcp⟩ ho hk => ⟨A0, n0, c0, A1, n1, c1, A3, n3, c3, A4, n4, c4, e, h0.stays TbR.stays ho hk, h1.stays DtR.stays ho hk, h3.stays DtR.stays ho hk, h4.stays SvR.stays ho hk, hcp⟩
def Ss.sz (x : Ss) : Nat := szL Tb.sz x.schema + szL Dt.sz x.db + szL Dt.sz x.start + szL Sv.sz x.saves
def Ss.wf (x : Ss) : Prop := (x.schema.length ≤ maxLen ∧ ∀ y ∈ x.schema, y.wf) ∧ (x.db.length ≤ maxLen ∧ ∀ y ∈ x.db, y.wf) ∧ (x.start.length ≤ maxLen ∧ ∀ y ∈ x.start, y.wf) ∧ (x.saves.length ≤ maxLen ∧ ∀ y ∈ x.saves, y.wf)

structure Qy where
  table : ByteArray
  terms : List Te
  wher : List Tk
  ord : List Int
  most : Int
def QyR : Rd Qy := fun ok w cs x => ∃ (A1 : Option Addr) (n1 c1 : Nat) (A2 : Option Addr) (n2 c2 : Nat) (A3 : Option Addr) (n3 c3 : Nat), cs = [.string x.table, .slice A1 n1 c1, .slice A2 n2 c2, .slice A3 n3 c3, .int .i64 x.most] ∧ Sl TeR 1 ok w A1 n1 x.terms ∧ Sl TkR 5 ok w A2 n2 x.wher ∧ Sl IntR 1 ok w A3 n3 x.ord ∧ (n1 ≤ c1 ∧ n2 ≤ c2 ∧ n3 ≤ c3)
theorem QyR.stays : Stays QyR := fun _ _ _ _ _ _ ⟨A1, n1, c1, A2, n2, c2, A3, n3, c3, e, h1, h2, h3, hcp⟩ ho hk => ⟨A1, n1, c1, A2, n2, c2, A3, n3, c3, e, h1.stays TeR.stays ho hk, h2.stays TkR.stays ho hk, h3.stays IntR.stays ho hk, hcp⟩
def Qy.sz (x : Qy) : Nat := x.table.size + szL Te.sz x.terms + szL (fun t : Tk => t.vs.size) x.wher + x.ord.length
def Qy.wf (x : Qy) : Prop := x.table.size ≤ maxLen ∧ (x.terms.length ≤ maxLen ∧ ∀ y ∈ x.terms, y.wf) ∧ (x.wher.length ≤ maxLen ∧ ∀ t ∈ x.wher, t.vs.size ≤ maxLen) ∧ x.ord.length ≤ maxLen

structure Ln where
  vals : List Vl
def LnR : Rd Ln := fun ok w cs x => ∃ (A0 : Option Addr) (n0 c0 : Nat), cs = [.slice A0 n0 c0] ∧ Sl VlR 3 ok w A0 n0 x.vals ∧ (n0 ≤ c0)
theorem LnR.stays : Stays LnR := fun _ _ _ _ _ _ ⟨A0, n0, c0, e, h0, hcp⟩ ho hk => ⟨A0, n0, c0, e, h0.stays VlR.stays ho hk, hcp⟩
def Ln.sz (x : Ln) : Nat := szL (fun v : Vl => v.s.size) x.vals
def Ln.wf (x : Ln) : Prop := (x.vals.length ≤ maxLen ∧ ∀ v ∈ x.vals, v.s.size ≤ maxLen)

structure En where
  key : List Vl
  id : Int
def EnR : Rd En := fun ok w cs x => ∃ (A0 : Option Addr) (n0 c0 : Nat), cs = [.slice A0 n0 c0, .int .i64 x.id] ∧ Sl VlR 3 ok w A0 n0 x.key ∧ (n0 ≤ c0)
theorem EnR.stays : Stays EnR := fun _ _ _ _ _ _ ⟨A0, n0, c0, e, h0, hcp⟩ ho hk => ⟨A0, n0, c0, e, h0.stays VlR.stays ho hk, hcp⟩
def En.sz (x : En) : Nat := szL (fun v : Vl => v.s.size) x.key
def En.wf (x : En) : Prop := (x.key.length ≤ maxLen ∧ ∀ v ∈ x.key, v.s.size ≤ maxLen)

structure Ch where
  table : Int
  id : Int
  old : List Vl
  now : List Vl
def ChR : Rd Ch := fun ok w cs x => ∃ (A2 : Option Addr) (n2 c2 : Nat) (A3 : Option Addr) (n3 c3 : Nat), cs = [.int .i64 x.table, .int .i64 x.id, .slice A2 n2 c2, .slice A3 n3 c3] ∧ Sl VlR 3 ok w A2 n2 x.old ∧ Sl VlR 3 ok w A3 n3 x.now ∧ (n2 ≤ c2 ∧ n3 ≤ c3)
theorem ChR.stays : Stays ChR := fun _ _ _ _ _ _ ⟨A2, n2, c2, A3, n3, c3, e, h2, h3, hcp⟩ ho hk => ⟨A2, n2, c2, A3, n3, c3, e, h2.stays VlR.stays ho hk, h3.stays VlR.stays ho hk, hcp⟩
def Ch.sz (x : Ch) : Nat := szL (fun v : Vl => v.s.size) x.old + szL (fun v : Vl => v.s.size) x.now
def Ch.wf (x : Ch) : Prop := (x.old.length ≤ maxLen ∧ ∀ v ∈ x.old, v.s.size ≤ maxLen) ∧ (x.now.length ≤ maxLen ∧ ∀ v ∈ x.now, v.s.size ≤ maxLen)

structure Fz where
  name : ByteArray
  data : ByteArray
def Fz.cells (x : Fz) : List Value := [.string x.name, .string x.data]
def FzR : Rd Fz := FlatR Fz.cells
theorem FzR.stays : Stays FzR := FlatR.stays _
def Fz.sz (x : Fz) : Nat := x.name.size + x.data.size
def Fz.wf (x : Fz) : Prop := x.name.size ≤ maxLen ∧ x.data.size ≤ maxLen

structure Oz where
  kind : Int
  name : ByteArray
  to : ByteArray
  data : ByteArray
def Oz.cells (x : Oz) : List Value := [.int .i64 x.kind, .string x.name, .string x.to, .string x.data]
def OzR : Rd Oz := FlatR Oz.cells
theorem OzR.stays : Stays OzR := FlatR.stays _
def Oz.sz (x : Oz) : Nat := x.name.size + x.to.size + x.data.size
def Oz.wf (x : Oz) : Prop := x.name.size ≤ maxLen ∧ x.to.size ≤ maxLen ∧ x.data.size ≤ maxLen

structure Dz where
  live : List Fz
  safe : List Fz
  ops : List Oz
def DzR : Rd Dz := fun ok w cs x => ∃ (A0 : Option Addr) (n0 c0 : Nat) (A1 : Option Addr) (n1 c1 : Nat) (A2 : Option Addr) (n2 c2 : Nat), cs = [.slice A0 n0 c0, .slice A1 n1 c1, .slice A2 n2 c2] ∧ Sl FzR 2 ok w A0 n0 x.live ∧ Sl FzR 2 ok w A1 n1 x.safe ∧ Sl OzR 4 ok w A2 n2 x.ops ∧ (n0 ≤ c0 ∧ n1 ≤ c1 ∧ n2 ≤ c2)
theorem DzR.stays : Stays DzR := fun _ _ _ _ _ _ ⟨A0, n0, c0, A1, n1, c1, A2, n2, c2, e, h0, h1, h2, hcp⟩ ho hk => ⟨A0, n0, c0, A1, n1, c1, A2, n2, c2, e, h0.stays FzR.stays ho hk, h1.stays FzR.stays ho hk, h2.stays OzR.stays ho hk, hcp⟩
def Dz.sz (x : Dz) : Nat := szL Fz.sz x.live + szL Fz.sz x.safe + szL Oz.sz x.ops
def Dz.wf (x : Dz) : Prop := (x.live.length ≤ maxLen ∧ ∀ y ∈ x.live, y.wf) ∧ (x.safe.length ≤ maxLen ∧ ∀ y ∈ x.safe, y.wf) ∧ (x.ops.length ≤ maxLen ∧ ∀ y ∈ x.ops, y.wf)

theorem Row.all1 {w : World} {g : Nat} {T : TypeId} {a0 : Value} (h : Row w g T #[a0]) :
    (w.cell? ⟨g, 0, none⟩ = some a0) ∧ (w.frozen? ⟨g, 0, none⟩ = false) :=
  ⟨h.cell 0, h.free 0⟩
theorem Row.all2 {w : World} {g : Nat} {T : TypeId} {a0 a1 : Value} (h : Row w g T #[a0, a1]) :
    (w.cell? ⟨g, 0, none⟩ = some a0 ∧ w.cell? ⟨g, 1, none⟩ = some a1) ∧ (w.frozen? ⟨g, 0, none⟩ = false ∧ w.frozen? ⟨g, 1, none⟩ = false) :=
  ⟨⟨h.cell 0, h.cell 1⟩, ⟨h.free 0, h.free 1⟩⟩
theorem Row.all4 {w : World} {g : Nat} {T : TypeId} {a0 a1 a2 a3 : Value} (h : Row w g T #[a0, a1, a2, a3]) :
    (w.cell? ⟨g, 0, none⟩ = some a0 ∧ w.cell? ⟨g, 1, none⟩ = some a1 ∧ w.cell? ⟨g, 2, none⟩ = some a2 ∧ w.cell? ⟨g, 3, none⟩ = some a3) ∧ (w.frozen? ⟨g, 0, none⟩ = false ∧ w.frozen? ⟨g, 1, none⟩ = false ∧ w.frozen? ⟨g, 2, none⟩ = false ∧ w.frozen? ⟨g, 3, none⟩ = false) :=
  ⟨⟨h.cell 0, h.cell 1, h.cell 2, h.cell 3⟩, ⟨h.free 0, h.free 1, h.free 2, h.free 3⟩⟩
theorem Row.all6 {w : World} {g : Nat} {T : TypeId} {a0 a1 a2 a3 a4 a5 : Value} (h : Row w g T #[a0, a1, a2, a3, a4, a5]) :
    (w.cell? ⟨g, 0, none⟩ = some a0 ∧ w.cell? ⟨g, 1, none⟩ = some a1 ∧ w.cell? ⟨g, 2, none⟩ = some a2 ∧ w.cell? ⟨g, 3, none⟩ = some a3 ∧ w.cell? ⟨g, 4, none⟩ = some a4 ∧ w.cell? ⟨g, 5, none⟩ = some a5) ∧ (w.frozen? ⟨g, 0, none⟩ = false ∧ w.frozen? ⟨g, 1, none⟩ = false ∧ w.frozen? ⟨g, 2, none⟩ = false ∧ w.frozen? ⟨g, 3, none⟩ = false ∧ w.frozen? ⟨g, 4, none⟩ = false ∧ w.frozen? ⟨g, 5, none⟩ = false) :=
  ⟨⟨h.cell 0, h.cell 1, h.cell 2, h.cell 3, h.cell 4, h.cell 5⟩, ⟨h.free 0, h.free 1, h.free 2, h.free 3, h.free 4, h.free 5⟩⟩
theorem TkR.at_ {ok : Nat → Prop} {w : World} {A : Option Addr} {n : Nat} {ds : List Tk} (h : Sl TkR 5 ok w A n ds) {i : Nat} (hi : i < ds.length) :
    ∃ (b off : Nat), ok b ∧ A = some ⟨b, off, none⟩ ∧ w.cell? ⟨b, off + i * 5, none⟩ = some (.int .i64 ds[i].k) ∧ w.cell? ⟨b, off + i * 5 + 1, none⟩ = some (.int .i64 ds[i].c) ∧ w.cell? ⟨b, off + i * 5 + 2, none⟩ = some (.int .i64 ds[i].vk) ∧ w.cell? ⟨b, off + i * 5 + 3, none⟩ = some (.int .i64 ds[i].vn) ∧ w.cell? ⟨b, off + i * 5 + 4, none⟩ = some (.string ds[i].vs) := by
  have hl := h.1
  obtain ⟨b, off, rfl, hb, hc⟩ := h.2 (by omega)
  obtain ⟨cs, -, hR, g⟩ := hc i hi
  have e : cs = _ := hR
  subst e
  exact ⟨b, off, hb, rfl, g 0 _ rfl, g 1 _ rfl, g 2 _ rfl, g 3 _ rfl, g 4 _ rfl⟩

theorem VlR.at_ {ok : Nat → Prop} {w : World} {A : Option Addr} {n : Nat} {ds : List Vl} (h : Sl VlR 3 ok w A n ds) {i : Nat} (hi : i < ds.length) :
    ∃ (b off : Nat), ok b ∧ A = some ⟨b, off, none⟩ ∧ w.cell? ⟨b, off + i * 3, none⟩ = some (.int .i64 ds[i].k) ∧ w.cell? ⟨b, off + i * 3 + 1, none⟩ = some (.int .i64 ds[i].n) ∧ w.cell? ⟨b, off + i * 3 + 2, none⟩ = some (.string ds[i].s) := by
  have hl := h.1
  obtain ⟨b, off, rfl, hb, hc⟩ := h.2 (by omega)
  obtain ⟨cs, -, hR, g⟩ := hc i hi
  have e : cs = _ := hR
  subst e
  exact ⟨b, off, hb, rfl, g 0 _ rfl, g 1 _ rfl, g 2 _ rfl⟩

theorem IntR.at_ {ok : Nat → Prop} {w : World} {A : Option Addr} {n : Nat} {ds : List Int} (h : Sl IntR 1 ok w A n ds) {i : Nat} (hi : i < ds.length) :
    ∃ (b off : Nat) , ok b ∧ A = some ⟨b, off, none⟩ ∧ w.cell? ⟨b, off + i, none⟩ = some (.int .i64 ds[i]) := by
  have hl := h.1
  obtain ⟨b, off, rfl, hb, hc⟩ := h.2 (by omega)
  obtain ⟨cs, -, hR, g⟩ := hc i hi
  have e : cs = _ := hR
  subst e
  exact ⟨b, off, hb, rfl, by have := g 0 _ rfl; rwa [Nat.mul_one] at this⟩

theorem ClR.at_ {ok : Nat → Prop} {w : World} {A : Option Addr} {n : Nat} {ds : List Cl} (h : Sl ClR 6 ok w A n ds) {i : Nat} (hi : i < ds.length) :
    ∃ (b off : Nat) , ok b ∧ A = some ⟨b, off, none⟩ ∧ w.cell? ⟨b, off + i * 6, none⟩ = some (.string ds[i].name) ∧ w.cell? ⟨b, off + i * 6 + 1, none⟩ = some (.int .i64 ds[i].kind) ∧ w.cell? ⟨b, off + i * 6 + 2, none⟩ = some (.bool ds[i].nn) ∧ w.cell? ⟨b, off + i * 6 + 3, none⟩ = some (.int .i64 ds[i].d.k) ∧ w.cell? ⟨b, off + i * 6 + 4, none⟩ = some (.int .i64 ds[i].d.n) ∧ w.cell? ⟨b, off + i * 6 + 5, none⟩ = some (.string ds[i].d.s) := by
  have hl := h.1
  obtain ⟨b, off, rfl, hb, hc⟩ := h.2 (by omega)
  obtain ⟨cs, -, hR, g⟩ := hc i hi
  have e : cs = _ := hR
  subst e
  exact ⟨b, off, hb, rfl, g 0 _ rfl, g 1 _ rfl, g 2 _ rfl, g 3 _ rfl, g 4 _ rfl, g 5 _ rfl⟩

theorem UqR.at_ {ok : Nat → Prop} {w : World} {A : Option Addr} {n : Nat} {ds : List Uq} (h : Sl UqR 1 ok w A n ds) {i : Nat} (hi : i < ds.length) :
    ∃ (b off : Nat) (A0 : Option Addr) (n0 c0 : Nat), ok b ∧ A = some ⟨b, off, none⟩ ∧ w.cell? ⟨b, off + i, none⟩ = some (.slice A0 n0 c0) ∧ Sl IntR 1 ok w A0 n0 ds[i].cols ∧ (n0 ≤ c0) := by
  have hl := h.1
  obtain ⟨b, off, rfl, hb, hc⟩ := h.2 (by omega)
  obtain ⟨cs, -, hR, g⟩ := hc i hi
  obtain ⟨A0, n0, c0, rfl, h0, hcp⟩ := hR
  exact ⟨b, off, A0, n0, c0, hb, rfl, by have := g 0 _ rfl; rwa [Nat.mul_one] at this, h0, hcp⟩

theorem CkR.at_ {ok : Nat → Prop} {w : World} {A : Option Addr} {n : Nat} {ds : List Ck} (h : Sl CkR 1 ok w A n ds) {i : Nat} (hi : i < ds.length) :
    ∃ (b off : Nat) (A0 : Option Addr) (n0 c0 : Nat), ok b ∧ A = some ⟨b, off, none⟩ ∧ w.cell? ⟨b, off + i, none⟩ = some (.slice A0 n0 c0) ∧ Sl TkR 5 ok w A0 n0 ds[i].expr ∧ (n0 ≤ c0) := by
  have hl := h.1
  obtain ⟨b, off, rfl, hb, hc⟩ := h.2 (by omega)
  obtain ⟨cs, -, hR, g⟩ := hc i hi
  obtain ⟨A0, n0, c0, rfl, h0, hcp⟩ := hR
  exact ⟨b, off, A0, n0, c0, hb, rfl, by have := g 0 _ rfl; rwa [Nat.mul_one] at this, h0, hcp⟩

theorem FkR.at_ {ok : Nat → Prop} {w : World} {A : Option Addr} {n : Nat} {ds : List Fk} (h : Sl FkR 5 ok w A n ds) {i : Nat} (hi : i < ds.length) :
    ∃ (b off : Nat) (A0 : Option Addr) (n0 c0 : Nat), ok b ∧ A = some ⟨b, off, none⟩ ∧ w.cell? ⟨b, off + i * 5, none⟩ = some (.slice A0 n0 c0) ∧ w.cell? ⟨b, off + i * 5 + 1, none⟩ = some (.string ds[i].table) ∧ w.cell? ⟨b, off + i * 5 + 2, none⟩ = some (.int .i64 ds[i].del) ∧ w.cell? ⟨b, off + i * 5 + 3, none⟩ = some (.int .i64 ds[i].upd) ∧ w.cell? ⟨b, off + i * 5 + 4, none⟩ = some (.bool ds[i].dfr) ∧ Sl IntR 1 ok w A0 n0 ds[i].cols ∧ (n0 ≤ c0) := by
  have hl := h.1
  obtain ⟨b, off, rfl, hb, hc⟩ := h.2 (by omega)
  obtain ⟨cs, -, hR, g⟩ := hc i hi
  obtain ⟨A0, n0, c0, rfl, h0, hcp⟩ := hR
  exact ⟨b, off, A0, n0, c0, hb, rfl, g 0 _ rfl, g 1 _ rfl, g 2 _ rfl, g 3 _ rfl, g 4 _ rfl, h0, hcp⟩

theorem TbR.at_ {ok : Nat → Prop} {w : World} {A : Option Addr} {n : Nat} {ds : List Tb} (h : Sl TbR 6 ok w A n ds) {i : Nat} (hi : i < ds.length) :
    ∃ (b off : Nat) (A1 : Option Addr) (n1 c1 : Nat) (A2 : Option Addr) (n2 c2 : Nat) (A3 : Option Addr) (n3 c3 : Nat) (A4 : Option Addr) (n4 c4 : Nat) (A5 : Option Addr) (n5 c5 : Nat), ok b ∧ A = some ⟨b, off, none⟩ ∧ w.cell? ⟨b, off + i * 6, none⟩ = some (.string ds[i].name) ∧ w.cell? ⟨b, off + i * 6 + 1, none⟩ = some (.slice A1 n1 c1) ∧ w.cell? ⟨b, off + i * 6 + 2, none⟩ = some (.slice A2 n2 c2) ∧ w.cell? ⟨b, off + i * 6 + 3, none⟩ = some (.slice A3 n3 c3) ∧ w.cell? ⟨b, off + i * 6 + 4, none⟩ = some (.slice A4 n4 c4) ∧ w.cell? ⟨b, off + i * 6 + 5, none⟩ = some (.slice A5 n5 c5) ∧ Sl ClR 6 ok w A1 n1 ds[i].cols ∧ Sl IntR 1 ok w A2 n2 ds[i].key ∧ Sl UqR 1 ok w A3 n3 ds[i].uniqs ∧ Sl CkR 1 ok w A4 n4 ds[i].checks ∧ Sl FkR 5 ok w A5 n5 ds[i].fks ∧ (n1 ≤ c1 ∧ n2 ≤ c2 ∧ n3 ≤ c3 ∧ n4 ≤ c4 ∧ n5 ≤ c5) := by
  have hl := h.1
  obtain ⟨b, off, rfl, hb, hc⟩ := h.2 (by omega)
  obtain ⟨cs, -, hR, g⟩ := hc i hi
  obtain ⟨A1, n1, c1, A2, n2, c2, A3, n3, c3, A4, n4, c4, A5, n5, c5, rfl, h1, h2, h3, h4, h5, hcp⟩ := hR
  exact ⟨b, off, A1, n1, c1, A2, n2, c2, A3, n3, c3, A4, n4, c4, A5, n5, c5, hb, rfl, g 0 _ rfl, g 1 _ rfl, g 2 _ rfl, g 3 _ rfl, g 4 _ rfl, g 5 _ rfl, h1, h2, h3, h4, h5, hcp⟩

theorem RwR.at_ {ok : Nat → Prop} {w : World} {A : Option Addr} {n : Nat} {ds : List Rw} (h : Sl RwR 2 ok w A n ds) {i : Nat} (hi : i < ds.length) :
    ∃ (b off : Nat) (A1 : Option Addr) (n1 c1 : Nat), ok b ∧ A = some ⟨b, off, none⟩ ∧ w.cell? ⟨b, off + i * 2, none⟩ = some (.int .i64 ds[i].id) ∧ w.cell? ⟨b, off + i * 2 + 1, none⟩ = some (.slice A1 n1 c1) ∧ Sl VlR 3 ok w A1 n1 ds[i].vals ∧ (n1 ≤ c1) := by
  have hl := h.1
  obtain ⟨b, off, rfl, hb, hc⟩ := h.2 (by omega)
  obtain ⟨cs, -, hR, g⟩ := hc i hi
  obtain ⟨A1, n1, c1, rfl, h1, hcp⟩ := hR
  exact ⟨b, off, A1, n1, c1, hb, rfl, g 0 _ rfl, g 1 _ rfl, h1, hcp⟩

theorem DtR.at_ {ok : Nat → Prop} {w : World} {A : Option Addr} {n : Nat} {ds : List Dt} (h : Sl DtR 1 ok w A n ds) {i : Nat} (hi : i < ds.length) :
    ∃ (b off : Nat) (A0 : Option Addr) (n0 c0 : Nat), ok b ∧ A = some ⟨b, off, none⟩ ∧ w.cell? ⟨b, off + i, none⟩ = some (.slice A0 n0 c0) ∧ Sl RwR 2 ok w A0 n0 ds[i].rows ∧ (n0 ≤ c0) := by
  have hl := h.1
  obtain ⟨b, off, rfl, hb, hc⟩ := h.2 (by omega)
  obtain ⟨cs, -, hR, g⟩ := hc i hi
  obtain ⟨A0, n0, c0, rfl, h0, hcp⟩ := hR
  exact ⟨b, off, A0, n0, c0, hb, rfl, by have := g 0 _ rfl; rwa [Nat.mul_one] at this, h0, hcp⟩

theorem SeR.at_ {ok : Nat → Prop} {w : World} {A : Option Addr} {n : Nat} {ds : List Se} (h : Sl SeR 2 ok w A n ds) {i : Nat} (hi : i < ds.length) :
    ∃ (b off : Nat) (A1 : Option Addr) (n1 c1 : Nat), ok b ∧ A = some ⟨b, off, none⟩ ∧ w.cell? ⟨b, off + i * 2, none⟩ = some (.int .i64 ds[i].col) ∧ w.cell? ⟨b, off + i * 2 + 1, none⟩ = some (.slice A1 n1 c1) ∧ Sl TkR 5 ok w A1 n1 ds[i].expr ∧ (n1 ≤ c1) := by
  have hl := h.1
  obtain ⟨b, off, rfl, hb, hc⟩ := h.2 (by omega)
  obtain ⟨cs, -, hR, g⟩ := hc i hi
  obtain ⟨A1, n1, c1, rfl, h1, hcp⟩ := hR
  exact ⟨b, off, A1, n1, c1, hb, rfl, g 0 _ rfl, g 1 _ rfl, h1, hcp⟩

theorem SqR.at_ {ok : Nat → Prop} {w : World} {A : Option Addr} {n : Nat} {ds : List Sq} (h : Sl SqR 6 ok w A n ds) {i : Nat} (hi : i < ds.length) :
    ∃ (b off : Nat) (A2 : Option Addr) (n2 c2 : Nat) (A3 : Option Addr) (n3 c3 : Nat) (A4 : Option Addr) (n4 c4 : Nat), ok b ∧ A = some ⟨b, off, none⟩ ∧ w.cell? ⟨b, off + i * 6, none⟩ = some (.int .i64 ds[i].kind) ∧ w.cell? ⟨b, off + i * 6 + 1, none⟩ = some (.string ds[i].table) ∧ w.cell? ⟨b, off + i * 6 + 2, none⟩ = some (.slice A2 n2 c2) ∧ w.cell? ⟨b, off + i * 6 + 3, none⟩ = some (.slice A3 n3 c3) ∧ w.cell? ⟨b, off + i * 6 + 4, none⟩ = some (.slice A4 n4 c4) ∧ w.cell? ⟨b, off + i * 6 + 5, none⟩ = some (.int .i64 ds[i].policy) ∧ Sl RwR 2 ok w A2 n2 ds[i].rows ∧ Sl TkR 5 ok w A3 n3 ds[i].wher ∧ Sl SeR 2 ok w A4 n4 ds[i].sets ∧ (n2 ≤ c2 ∧ n3 ≤ c3 ∧ n4 ≤ c4) := by
  have hl := h.1
  obtain ⟨b, off, rfl, hb, hc⟩ := h.2 (by omega)
  obtain ⟨cs, -, hR, g⟩ := hc i hi
  obtain ⟨A2, n2, c2, A3, n3, c3, A4, n4, c4, rfl, h2, h3, h4, hcp⟩ := hR
  exact ⟨b, off, A2, n2, c2, A3, n3, c3, A4, n4, c4, hb, rfl, g 0 _ rfl, g 1 _ rfl, g 2 _ rfl, g 3 _ rfl, g 4 _ rfl, g 5 _ rfl, h2, h3, h4, hcp⟩

theorem TeR.at_ {ok : Nat → Prop} {w : World} {A : Option Addr} {n : Nat} {ds : List Te} (h : Sl TeR 1 ok w A n ds) {i : Nat} (hi : i < ds.length) :
    ∃ (b off : Nat) (A0 : Option Addr) (n0 c0 : Nat), ok b ∧ A = some ⟨b, off, none⟩ ∧ w.cell? ⟨b, off + i, none⟩ = some (.slice A0 n0 c0) ∧ Sl TkR 5 ok w A0 n0 ds[i].expr ∧ (n0 ≤ c0) := by
  have hl := h.1
  obtain ⟨b, off, rfl, hb, hc⟩ := h.2 (by omega)
  obtain ⟨cs, -, hR, g⟩ := hc i hi
  obtain ⟨A0, n0, c0, rfl, h0, hcp⟩ := hR
  exact ⟨b, off, A0, n0, c0, hb, rfl, by have := g 0 _ rfl; rwa [Nat.mul_one] at this, h0, hcp⟩

theorem TgR.at_ {ok : Nat → Prop} {w : World} {A : Option Addr} {n : Nat} {ds : List Tg} (h : Sl TgR 5 ok w A n ds) {i : Nat} (hi : i < ds.length) :
    ∃ (b off : Nat) (A2 : Option Addr) (n2 c2 : Nat) (A4 : Option Addr) (n4 c4 : Nat), ok b ∧ A = some ⟨b, off, none⟩ ∧ w.cell? ⟨b, off + i * 5, none⟩ = some (.string ds[i].table) ∧ w.cell? ⟨b, off + i * 5 + 1, none⟩ = some (.int .i64 ds[i].event) ∧ w.cell? ⟨b, off + i * 5 + 2, none⟩ = some (.slice A2 n2 c2) ∧ w.cell? ⟨b, off + i * 5 + 3, none⟩ = some (.string ds[i].into) ∧ w.cell? ⟨b, off + i * 5 + 4, none⟩ = some (.slice A4 n4 c4) ∧ Sl TkR 5 ok w A2 n2 ds[i].wher ∧ Sl TeR 1 ok w A4 n4 ds[i].terms ∧ (n2 ≤ c2 ∧ n4 ≤ c4) := by
  have hl := h.1
  obtain ⟨b, off, rfl, hb, hc⟩ := h.2 (by omega)
  obtain ⟨cs, -, hR, g⟩ := hc i hi
  obtain ⟨A2, n2, c2, A4, n4, c4, rfl, h2, h4, hcp⟩ := hR
  exact ⟨b, off, A2, n2, c2, A4, n4, c4, hb, rfl, g 0 _ rfl, g 1 _ rfl, g 2 _ rfl, g 3 _ rfl, g 4 _ rfl, h2, h4, hcp⟩

theorem SvR.at_ {ok : Nat → Prop} {w : World} {A : Option Addr} {n : Nat} {ds : List Sv} (h : Sl SvR 2 ok w A n ds) {i : Nat} (hi : i < ds.length) :
    ∃ (b off : Nat) (A1 : Option Addr) (n1 c1 : Nat), ok b ∧ A = some ⟨b, off, none⟩ ∧ w.cell? ⟨b, off + i * 2, none⟩ = some (.string ds[i].name) ∧ w.cell? ⟨b, off + i * 2 + 1, none⟩ = some (.slice A1 n1 c1) ∧ Sl DtR 1 ok w A1 n1 ds[i].db ∧ (n1 ≤ c1) := by
  have hl := h.1
  obtain ⟨b, off, rfl, hb, hc⟩ := h.2 (by omega)
  obtain ⟨cs, -, hR, g⟩ := hc i hi
  obtain ⟨A1, n1, c1, rfl, h1, hcp⟩ := hR
  exact ⟨b, off, A1, n1, c1, hb, rfl, g 0 _ rfl, g 1 _ rfl, h1, hcp⟩

theorem SsR.at_ {ok : Nat → Prop} {w : World} {A : Option Addr} {n : Nat} {ds : List Ss} (h : Sl SsR 5 ok w A n ds) {i : Nat} (hi : i < ds.length) :
    ∃ (b off : Nat) (A0 : Option Addr) (n0 c0 : Nat) (A1 : Option Addr) (n1 c1 : Nat) (A3 : Option Addr) (n3 c3 : Nat) (A4 : Option Addr) (n4 c4 : Nat), ok b ∧ A = some ⟨b, off, none⟩ ∧ w.cell? ⟨b, off + i * 5, none⟩ = some (.slice A0 n0 c0) ∧ w.cell? ⟨b, off + i * 5 + 1, none⟩ = some (.slice A1 n1 c1) ∧ w.cell? ⟨b, off + i * 5 + 2, none⟩ = some (.bool ds[i].isOpen) ∧ w.cell? ⟨b, off + i * 5 + 3, none⟩ = some (.slice A3 n3 c3) ∧ w.cell? ⟨b, off + i * 5 + 4, none⟩ = some (.slice A4 n4 c4) ∧ Sl TbR 6 ok w A0 n0 ds[i].schema ∧ Sl DtR 1 ok w A1 n1 ds[i].db ∧ Sl DtR 1 ok w A3 n3 ds[i].start ∧ Sl SvR 2 ok w A4 n4 ds[i].saves ∧ (n0 ≤ c0 ∧ n1 ≤ c1 ∧ n3 ≤ c3 ∧ n4 ≤ c4) := by
  have hl := h.1
  obtain ⟨b, off, rfl, hb, hc⟩ := h.2 (by omega)
  obtain ⟨cs, -, hR, g⟩ := hc i hi
  obtain ⟨A0, n0, c0, A1, n1, c1, A3, n3, c3, A4, n4, c4, rfl, h0, h1, h3, h4, hcp⟩ := hR
  exact ⟨b, off, A0, n0, c0, A1, n1, c1, A3, n3, c3, A4, n4, c4, hb, rfl, g 0 _ rfl, g 1 _ rfl, g 2 _ rfl, g 3 _ rfl, g 4 _ rfl, h0, h1, h3, h4, hcp⟩

theorem QyR.at_ {ok : Nat → Prop} {w : World} {A : Option Addr} {n : Nat} {ds : List Qy} (h : Sl QyR 5 ok w A n ds) {i : Nat} (hi : i < ds.length) :
    ∃ (b off : Nat) (A1 : Option Addr) (n1 c1 : Nat) (A2 : Option Addr) (n2 c2 : Nat) (A3 : Option Addr) (n3 c3 : Nat), ok b ∧ A = some ⟨b, off, none⟩ ∧ w.cell? ⟨b, off + i * 5, none⟩ = some (.string ds[i].table) ∧ w.cell? ⟨b, off + i * 5 + 1, none⟩ = some (.slice A1 n1 c1) ∧ w.cell? ⟨b, off + i * 5 + 2, none⟩ = some (.slice A2 n2 c2) ∧ w.cell? ⟨b, off + i * 5 + 3, none⟩ = some (.slice A3 n3 c3) ∧ w.cell? ⟨b, off + i * 5 + 4, none⟩ = some (.int .i64 ds[i].most) ∧ Sl TeR 1 ok w A1 n1 ds[i].terms ∧ Sl TkR 5 ok w A2 n2 ds[i].wher ∧ Sl IntR 1 ok w A3 n3 ds[i].ord ∧ (n1 ≤ c1 ∧ n2 ≤ c2 ∧ n3 ≤ c3) := by
  have hl := h.1
  obtain ⟨b, off, rfl, hb, hc⟩ := h.2 (by omega)
  obtain ⟨cs, -, hR, g⟩ := hc i hi
  obtain ⟨A1, n1, c1, A2, n2, c2, A3, n3, c3, rfl, h1, h2, h3, hcp⟩ := hR
  exact ⟨b, off, A1, n1, c1, A2, n2, c2, A3, n3, c3, hb, rfl, g 0 _ rfl, g 1 _ rfl, g 2 _ rfl, g 3 _ rfl, g 4 _ rfl, h1, h2, h3, hcp⟩

theorem LnR.at_ {ok : Nat → Prop} {w : World} {A : Option Addr} {n : Nat} {ds : List Ln} (h : Sl LnR 1 ok w A n ds) {i : Nat} (hi : i < ds.length) :
    ∃ (b off : Nat) (A0 : Option Addr) (n0 c0 : Nat), ok b ∧ A = some ⟨b, off, none⟩ ∧ w.cell? ⟨b, off + i, none⟩ = some (.slice A0 n0 c0) ∧ Sl VlR 3 ok w A0 n0 ds[i].vals ∧ (n0 ≤ c0) := by
  have hl := h.1
  obtain ⟨b, off, rfl, hb, hc⟩ := h.2 (by omega)
  obtain ⟨cs, -, hR, g⟩ := hc i hi
  obtain ⟨A0, n0, c0, rfl, h0, hcp⟩ := hR
  exact ⟨b, off, A0, n0, c0, hb, rfl, by have := g 0 _ rfl; rwa [Nat.mul_one] at this, h0, hcp⟩

theorem EnR.at_ {ok : Nat → Prop} {w : World} {A : Option Addr} {n : Nat} {ds : List En} (h : Sl EnR 2 ok w A n ds) {i : Nat} (hi : i < ds.length) :
    ∃ (b off : Nat) (A0 : Option Addr) (n0 c0 : Nat), ok b ∧ A = some ⟨b, off, none⟩ ∧ w.cell? ⟨b, off + i * 2, none⟩ = some (.slice A0 n0 c0) ∧ w.cell? ⟨b, off + i * 2 + 1, none⟩ = some (.int .i64 ds[i].id) ∧ Sl VlR 3 ok w A0 n0 ds[i].key ∧ (n0 ≤ c0) := by
  have hl := h.1
  obtain ⟨b, off, rfl, hb, hc⟩ := h.2 (by omega)
  obtain ⟨cs, -, hR, g⟩ := hc i hi
  obtain ⟨A0, n0, c0, rfl, h0, hcp⟩ := hR
  exact ⟨b, off, A0, n0, c0, hb, rfl, g 0 _ rfl, g 1 _ rfl, h0, hcp⟩

theorem ChR.at_ {ok : Nat → Prop} {w : World} {A : Option Addr} {n : Nat} {ds : List Ch} (h : Sl ChR 4 ok w A n ds) {i : Nat} (hi : i < ds.length) :
    ∃ (b off : Nat) (A2 : Option Addr) (n2 c2 : Nat) (A3 : Option Addr) (n3 c3 : Nat), ok b ∧ A = some ⟨b, off, none⟩ ∧ w.cell? ⟨b, off + i * 4, none⟩ = some (.int .i64 ds[i].table) ∧ w.cell? ⟨b, off + i * 4 + 1, none⟩ = some (.int .i64 ds[i].id) ∧ w.cell? ⟨b, off + i * 4 + 2, none⟩ = some (.slice A2 n2 c2) ∧ w.cell? ⟨b, off + i * 4 + 3, none⟩ = some (.slice A3 n3 c3) ∧ Sl VlR 3 ok w A2 n2 ds[i].old ∧ Sl VlR 3 ok w A3 n3 ds[i].now ∧ (n2 ≤ c2 ∧ n3 ≤ c3) := by
  have hl := h.1
  obtain ⟨b, off, rfl, hb, hc⟩ := h.2 (by omega)
  obtain ⟨cs, -, hR, g⟩ := hc i hi
  obtain ⟨A2, n2, c2, A3, n3, c3, rfl, h2, h3, hcp⟩ := hR
  exact ⟨b, off, A2, n2, c2, A3, n3, c3, hb, rfl, g 0 _ rfl, g 1 _ rfl, g 2 _ rfl, g 3 _ rfl, h2, h3, hcp⟩

theorem FzR.at_ {ok : Nat → Prop} {w : World} {A : Option Addr} {n : Nat} {ds : List Fz} (h : Sl FzR 2 ok w A n ds) {i : Nat} (hi : i < ds.length) :
    ∃ (b off : Nat) , ok b ∧ A = some ⟨b, off, none⟩ ∧ w.cell? ⟨b, off + i * 2, none⟩ = some (.string ds[i].name) ∧ w.cell? ⟨b, off + i * 2 + 1, none⟩ = some (.string ds[i].data) := by
  have hl := h.1
  obtain ⟨b, off, rfl, hb, hc⟩ := h.2 (by omega)
  obtain ⟨cs, -, hR, g⟩ := hc i hi
  have e : cs = _ := hR
  subst e
  exact ⟨b, off, hb, rfl, g 0 _ rfl, g 1 _ rfl⟩

theorem OzR.at_ {ok : Nat → Prop} {w : World} {A : Option Addr} {n : Nat} {ds : List Oz} (h : Sl OzR 4 ok w A n ds) {i : Nat} (hi : i < ds.length) :
    ∃ (b off : Nat) , ok b ∧ A = some ⟨b, off, none⟩ ∧ w.cell? ⟨b, off + i * 4, none⟩ = some (.int .i64 ds[i].kind) ∧ w.cell? ⟨b, off + i * 4 + 1, none⟩ = some (.string ds[i].name) ∧ w.cell? ⟨b, off + i * 4 + 2, none⟩ = some (.string ds[i].to) ∧ w.cell? ⟨b, off + i * 4 + 3, none⟩ = some (.string ds[i].data) := by
  have hl := h.1
  obtain ⟨b, off, rfl, hb, hc⟩ := h.2 (by omega)
  obtain ⟨cs, -, hR, g⟩ := hc i hi
  have e : cs = _ := hR
  subst e
  exact ⟨b, off, hb, rfl, g 0 _ rfl, g 1 _ rfl, g 2 _ rfl, g 3 _ rfl⟩

theorem DzR.at_ {ok : Nat → Prop} {w : World} {A : Option Addr} {n : Nat} {ds : List Dz} (h : Sl DzR 3 ok w A n ds) {i : Nat} (hi : i < ds.length) :
    ∃ (b off : Nat) (A0 : Option Addr) (n0 c0 : Nat) (A1 : Option Addr) (n1 c1 : Nat) (A2 : Option Addr) (n2 c2 : Nat), ok b ∧ A = some ⟨b, off, none⟩ ∧ w.cell? ⟨b, off + i * 3, none⟩ = some (.slice A0 n0 c0) ∧ w.cell? ⟨b, off + i * 3 + 1, none⟩ = some (.slice A1 n1 c1) ∧ w.cell? ⟨b, off + i * 3 + 2, none⟩ = some (.slice A2 n2 c2) ∧ Sl FzR 2 ok w A0 n0 ds[i].live ∧ Sl FzR 2 ok w A1 n1 ds[i].safe ∧ Sl OzR 4 ok w A2 n2 ds[i].ops ∧ (n0 ≤ c0 ∧ n1 ≤ c1 ∧ n2 ≤ c2) := by
  have hl := h.1
  obtain ⟨b, off, rfl, hb, hc⟩ := h.2 (by omega)
  obtain ⟨cs, -, hR, g⟩ := hc i hi
  obtain ⟨A0, n0, c0, A1, n1, c1, A2, n2, c2, rfl, h0, h1, h2, hcp⟩ := hR
  exact ⟨b, off, A0, n0, c0, A1, n1, c1, A2, n2, c2, hb, rfl, g 0 _ rfl, g 1 _ rfl, g 2 _ rfl, h0, h1, h2, hcp⟩

end Go.Proofs.YtakhcgkhjmfndaaGreat
